/- DescNames: descriptors and leaves at their ends. -/
import Derived.Test.YtjncnojplkljnaaDeB
import Derived.Test.YtjncnojplkljnaaDsO
import Derived.Deep.RegionLawGrows
namespace Go.Proofs.Ytjncnojplkljnaa
open Go.RowKit

def nR (_ : Nat) : Int := 31
def nV (_ : Nat) : Int := 1073741824
def wR (i : Nat) : Int := if i = 0 then 32 else if i = 1 then -1 else 0
def wV (i : Nat) : Int := if i = 0 then 1 else if i = 1 then 1 else if i = 2 then 0 else 1073741825
def nL : Nat → UInt8 := lfB 10 nR nV
def nB : Nat → UInt8 := deB 576 0 9 nR nV
def nC : Nat → UInt8 := deB 577 1 1 nR nV
def nM : Nat → UInt8 := deB 5760 1 9 nR nV
theorem n_erL {i : Nat} (h : i < 4) : erL 0 64 32 1 (fun _ => wR i) (fun _ => wV i) = 150 := by
  rcases (show i = 0 ∨ i = 1 ∨ i = 2 ∨ i = 3 by omega) with rfl | rfl | rfl | rfl <;> (unfold erL; rw [if_pos rfl, if_neg (by decide), if_neg (by decide +kernel)])
theorem n_erD {i : Nat} (h : i < 4) : erD 0 64 32 1 0 1 (fun _ => wR i) (fun _ => wV i) = 150 := by
  rcases (show i = 0 ∨ i = 1 ∨ i = 2 ∨ i = 3 by omega) with rfl | rfl | rfl | rfl <;> (unfold erD; rw [if_pos rfl, if_neg (by decide +kernel)])
theorem n_ten : erL 0 64 32 10 nR nV = 0 := by unfold erL; rw [if_pos rfl, if_neg (by decide), if_pos (by decide +kernel)]
theorem n_eleven : erL 0 64 32 11 nR nV = 20 := by unfold erL; rw [if_pos rfl, if_pos (by decide)]
theorem n_back : erR 0 64 32 64 10 nL = 0 := by unfold erR; rw [if_pos rfl, if_pos rfl, if_neg (by decide), if_pos (by decide +kernel)]
theorem n_back2 : erR 0 64 32 64 11 nL = 20 := by unfold erR; rw [if_pos rfl, if_pos rfl, if_pos (by decide)]
theorem n_none (F : Nat → UInt8) : erR 0 64 32 0 0 F = 20 := by unfold erR; rw [if_pos rfl, if_neg (by decide)]
theorem n_b : erD 0 64 32 576 0 9 nR nV = 0 := by unfold erD; rw [if_pos rfl, if_pos (by decide +kernel)]
theorem n_c : erD 0 64 32 577 1 1 nR nV = 0 := by unfold erD; rw [if_pos rfl, if_pos (by decide +kernel)]
theorem n_m : erD 0 64 32 5760 1 9 nR nV = 0 := by unfold erD; rw [if_pos rfl, if_pos (by decide +kernel)]
theorem n_8 : erD 0 64 32 5761 1 10 nR nV = 150 := by unfold erD; rw [if_pos rfl, if_neg (by decide +kernel)]
theorem n_9 : erD 0 64 32 577 0 10 nR nV = 150 := by unfold erD; rw [if_pos rfl, if_neg (by decide +kernel)]
theorem n_cells : ((nB 2).toNat = 2 ∧ (nB 3).toNat = 64 ∧ (nB 6).toNat = 9) ∧ ((nC 4).toNat = 1 ∧ (nC 6).toNat = 1 ∧ (nC 9).toNat = 64) ∧ (nM 2).toNat = 22 ∧ (nM 3).toNat = 128 := by decide +kernel
theorem n_last : rdR nL 0 9 = 31 ∧ rdV nL 0 9 = 1073741824 := by decide +kernel
theorem row_form {B : Nat} {w : World} {v : Value} {n : Nat} {xs : List Value} (h : w.ownsRow B 27 2 v n xs) (hn : 0 < n) : ∃ g c, v = .slice (some ⟨g, 0, none⟩) n c := by
  rcases h.2 with ⟨_, h2⟩ | ⟨g, cap', cur, h1, _⟩
  · omega
  · exact ⟨g, cap', h1⟩
theorem OwR.fewer {B : Nat} {w : World} {ao : Option Addr} {n cap : Nat} {R V : Nat → Int} (h : OwR B w ao n cap R V) (m : Nat) (hm : m ≤ n) (h0 : 0 < n) : Rec w ao m cap R V := by
  have h1 := h.rec
  obtain ⟨b, off, e, hc⟩ := h1.rd h0
  exact ⟨fun _ => ⟨b, off, e, fun i hi => hc i (by omega)⟩, (fun e2 => by rw [e] at e2; cases e2), by have := h1.room; omega⟩
theorem par_nil : Par 0 0 0 0 0 0 2 := .inr ⟨by decide, rfl, rfl, rfl⟩
theorem nR_app (k : Nat) : apI k nR nR = nR ∧ apI k nV nV = nV := ⟨funext fun i => by unfold apI nR; split <;> rfl, funext fun i => by unfold apI nV; split <;> rfl⟩

set_option maxHeartbeats 16000000 in
set_option maxRecDepth 100000 in
theorem names_law (w : World) : Calls Try.prog 3 #[] w fun e w' => e = .returned (.bool true) ∧ Below w.heap.size w w' := by
  have HC0 : Hid (∀ i, i < 4 → ∀ v ro rc, Rec v ro 1 rc (fun _ => wR i) (fun _ => wV i) → Calls Try.prog 11 #[.agg #[.int .i64 4, .int .i64 2, .int .i64 16, .int .i64 32], .slice ro 1 rc] v fun e w' => ∃ ao cp, e = .returned (.tuple #[.slice ao 0 cp, .int .i64 150]) ∧ Below v.heap.size v w') := fun i hi v ro rc hv => (DLeaf_any par_sample v ro 1 rc _ _ hv 150 (n_erL hi)).mono (by rintro e w' ⟨ao, cp, h1, h2, h3⟩; rw [lenE_not (by decide)] at h1; exact ⟨ao, cp, h1, h3⟩)
  have HC1 : Hid (∀ i, i < 4 → ∀ v ro rc, RdR v ro 1 (fun _ => wR i) (fun _ => wV i) → Calls Try.prog 12 #[.agg #[.int .i64 4, .int .i64 2, .int .i64 16, .int .i64 32], .agg #[.int .i64 1, .int .i64 0, .slice ro 1 rc]] v fun e w' => e = .returned (.int .i64 150) ∧ Below v.heap.size v w') := fun i hi v ro rc hv => by
    have := DCheck_any par_sample v 1 0 ro 1 rc _ _ hv
    rw [n_erD hi] at this
    exact this
  have CL10 := fun v ro rc hv => DLeaf_any par_sample v ro 10 rc nR nV hv 0 n_ten
  have CL11 := fun v ro rc hv => DLeaf_any par_sample v ro 11 rc nR nV hv 20 n_eleven
  have CR10 := fun v bo bc hv => Refs_any par_sample v bo 64 bc nL hv 10 0 n_back
  have CR11 := fun v bo bc hv => Refs_any par_sample v bo 64 bc nL hv 11 20 n_back2
  have CR0 := fun v => Refs_any par_sample v none 0 0 (fun _ => 0) (bec_nil v _) 0 20 (n_none _)
  have CBB := fun v ro rc hv => Bytes_any par_sample v 576 0 ro 9 rc nR nV hv 0 n_b
  have CBC := fun v ro rc hv => Bytes_any par_sample v 577 1 ro 1 rc nR nV hv 0 n_c
  have CBM := fun v ro rc hv => Bytes_any par_sample v 5760 1 ro 9 rc nR nV hv 0 n_m
  have CB8 := fun v ro rc hv => Bytes_any par_sample v 5761 1 ro 10 rc nR nV hv 150 n_8
  have CB9 := fun v ro rc hv => Bytes_any par_sample v 577 0 ro 10 rc nR nV hv 150 n_9
  have CPN := fun v => Parse_no par_nil v none 0 0 2 (by decide) (by decide) 0 0 0 (fun _ => 0) (fun _ => 0)
  have HFX : Hid (lfB 10 nR nV = nL ∧ deB 576 0 9 nR nV = nB ∧ deB 577 1 1 nR nV = nC ∧ deB 5760 1 9 nR nV = nM) := ⟨rfl, rfl, rfl, rfl⟩
  rw [HFX.out.1] at CL10
  rw [HFX.out.2.1] at CBB
  rw [HFX.out.2.2.1] at CBC
  rw [HFX.out.2.2.2] at CBM
  unfold AnsB at CL10 CL11 CBB CBC CBM CB8 CB9
  unfold AnsR at CR10 CR11 CR0
  unfold AnsD at CPN
  simp only [lenE_zero] at CL10 CR10 CBB CBC CBM
  simp only [lenE_not (show (20 : Int) ≠ 0 by decide)] at CL11 CR11 CR0
  simp only [lenE_not (show (150 : Int) ≠ 0 by decide)] at CB8 CB9
  simp only [lenE_not (show (2 : Int) ≠ 0 by decide), lenI_not (show (2 : Int) ≠ 0 by decide)] at CPN
  rw [show (10 : Int).toNat = 10 from rfl] at CR10
  have HCT : Hid True := trivial
  go_enter Try.func3, Try.ntmps3
  go_wp2_with fail
  refine (alive_any _).mono ?_
  rintro e wa ⟨rfl, ha⟩
  go_wp2_with fail
  refine (sample_any _).mono ?_
  rintro e wb ⟨rfl, hb⟩
  go_wp2_with fail
  obtain ⟨u1, hu1⟩ : ∃ u1, u1 = wb.alloc (.cells #[.int .i64 4, .int .i64 2, .int .i64 16, .int .i64 32] 24) := ⟨_, rfl⟩
  obtain ⟨u2, hu2⟩ : ∃ u2, u2 = u1.alloc (.cells #[.int .i64 31, .int .i64 1073741824] 27) := ⟨_, rfl⟩
  obtain ⟨u, hu⟩ : ∃ u, u = u2.alloc (.cells #[.int .i64 32, .int .i64 1, .int .i64 (-1), .int .i64 1, .int .i64 0, .int .i64 0, .int .i64 0, .int .i64 1073741825] 27) := ⟨_, rfl⟩
  rw [← hu1, ← hu2, ← hu]
  have c1 : Below wb.heap.size wb u1 := by rw [hu1]; exact below_alloc _ _
  have c2 : Below u1.heap.size u1 u2 := by rw [hu2]; exact below_alloc _ _
  have c3 : Below u2.heap.size u2 u := by rw [hu]; exact below_alloc _ _
  have z1 : u1.heap.size = wb.heap.size + 1 := by rw [hu1]; simp
  have z2 : u2.heap.size = wb.heap.size + 1 + 1 := by rw [hu2]; simp [z1]
  have HK : Hid (Below w.heap.size w u) := below_then (below_then (below_then (below_then ha hb) c1) c2) c3
  have HP : Hid (∀ v, Below u.heap.size u v → v.cell? ⟨wb.heap.size, 0, none⟩ = some (.int .i64 4) ∧ v.cell? ⟨wb.heap.size, 1, none⟩ = some (.int .i64 2) ∧ v.cell? ⟨wb.heap.size, 2, none⟩ = some (.int .i64 16) ∧ v.cell? ⟨wb.heap.size, 3, none⟩ = some (.int .i64 32)) := fun v hv => par_held hu1 (below_then (below_then c2 c3) hv)
  have HL : Hid (∀ v, Below u.heap.size u v → v.cell? ⟨wb.heap.size + 1, 0, none⟩ = some (.int .i64 31) ∧ v.cell? ⟨wb.heap.size + 1, 1, none⟩ = some (.int .i64 1073741824)) := fun v hv => by rw [← z1]; exact ⟨blk_held hu2 (below_then c3 hv) 0 rfl, blk_held hu2 (below_then c3 hv) 1 rfl⟩
  have HWR : Hid (∀ v, Below u.heap.size u v → ∀ i, i < 4 → v.cell? ⟨wb.heap.size + 1 + 1, i * 2, none⟩ = some (.int .i64 (wR i)) ∧ v.cell? ⟨wb.heap.size + 1 + 1, i * 2 + 1, none⟩ = some (.int .i64 (wV i))) := fun v hv i hi => by
    rw [← z2]
    rcases (show i = 0 ∨ i = 1 ∨ i = 2 ∨ i = 3 by omega) with rfl | rfl | rfl | rfl
    · exact ⟨blk_held hu hv 0 rfl, blk_held hu hv 1 rfl⟩
    · exact ⟨blk_held hu hv 2 rfl, blk_held hu hv 3 rfl⟩
    · exact ⟨blk_held hu hv 4 rfl, blk_held hu hv 5 rfl⟩
    · exact ⟨blk_held hu hv 6 rfl, blk_held hu hv 7 rfl⟩
  clear hu1 hu2 hu c1 c2 c3 z1 z2 ha hb
  generalize wb.heap.size = pb at *
  go_wp2_with fail
  go_loopw [5] (fun x wr => ∃ i : Nat, i ≤ 4 ∧ x = .int .i64 (i : Int) ∧ Hid (Below u.heap.size u wr)) (fun x _ => 4 - (intOf x).toNat)
  case atStart => exact ⟨0, Nat.zero_le _, rfl, Below.refl _ _⟩
  case round =>
    obtain ⟨i, hi, rfl, hbel⟩ := hrel
    by_cases hlt : i < 4
    · have HB : Hid (Below u.heap.size u wr) := hbel.out
      have i1 : (0 : Int) ≤ (i : Int) := by omega
      have i2 : (i : Int) ≤ (i : Int) + 1 := by omega
      have i3 : (i : Int) + 1 ≤ 4 := by omega
      have i5 : (0 : Int) ≤ (i : Int) + 1 := by omega
      have i4 : (i : Int) < 4 := by omega
      have wi : IntKind.i64.wrap ((i : Int) + 1) = (i : Int) + 1 := by rw [IntKind.wrap_i64]; omega
      have t1 : ((i : Int) + 1).toNat = i + 1 := by omega
      have t2 : i + 1 - i = 1 := by omega
      have t3 : ((i : Int) + 1 - (i : Int)).toNat = 1 := by omega
      have n1 : ¬ 4 = i := by omega
      have n2 : ¬ i = 4 := by omega
      have HREC : Hid (∀ v, Below u.heap.size u v → Rec v (some ⟨pb + 1 + 1, i * 2, none⟩) 1 (4 - i) (fun _ => wR i) (fun _ => wV i)) := fun v hv => ⟨fun _ => ⟨_, _, rfl, fun j hj => by obtain rfl : j = 0 := (by omega); exact HWR.out v hv i hlt⟩, (fun e => by cases e), by omega⟩
      have C0 := fun v hv => HC0.out i hlt v (some ⟨pb + 1 + 1, i * 2, none⟩) (4 - i) (HREC.out v hv)
      have C1 := fun v hv => HC1.out i hlt v (some ⟨pb + 1 + 1, i * 2, none⟩) (4 - i) (HREC.out v hv).rd
      obtain ⟨p0, p1, p2, p3⟩ := HP.out wr HB.out
      have HT : Hid (∀ v, Below wr.drew.heap.size wr.drew v → Below u.heap.size u v) := fun v hv => below_then HB.out (of_drew hv)
      clear hbel
      go_wp2_with fail
      go_region_held3 (fun v => v.cell? ⟨pb, 0, none⟩ = some (.int .i64 4) ∧ v.cell? ⟨pb, 1, none⟩ = some (.int .i64 2) ∧ v.cell? ⟨pb, 2, none⟩ = some (.int .i64 16) ∧ v.cell? ⟨pb, 3, none⟩ = some (.int .i64 32)) (go_keep)
        ((go_at_call 11; refine (C0 _ (HT.out _ (Below.refl _ _))).mono ?_; rintro e wx ⟨xo, xc, rfl, hx⟩; obtain ⟨q0, q1, q2, q3⟩ := HP.out _ (HT.out _ hx)))
      have HX : Hid (Below u.heap.size u wx) := HT.out _ hx
      clear hx HT p0 p1 p2 p3 C0
      have HT : Hid (∀ v, Below wx.drew.heap.size wx.drew v → Below u.heap.size u v) := fun v hv => below_then HX.out (of_drew hv)
      go_wp2_with fail
      go_region_held3 (fun v => v.cell? ⟨pb, 0, none⟩ = some (.int .i64 4) ∧ v.cell? ⟨pb, 1, none⟩ = some (.int .i64 2) ∧ v.cell? ⟨pb, 2, none⟩ = some (.int .i64 16) ∧ v.cell? ⟨pb, 3, none⟩ = some (.int .i64 32)) (go_keep)
        ((go_at_call 12; refine (C1 _ (HT.out _ (Below.refl _ _))).mono ?_; rintro e wy ⟨rfl, hy⟩; obtain ⟨s0, s1, s2, s3⟩ := HP.out _ (HT.out _ hy)))
      have HY : Hid (Below u.heap.size u wy) := HT.out _ hy
      clear hy HT
      go_wp2_with fail
      exact ⟨⟨i + 1, by omega, by go_num, HY⟩, by simp [intOf]; omega⟩
    · have hlti : ¬ (i : Int) < 4 := by omega
      obtain ⟨wl, hwl⟩ : ∃ wl, wl = wr := ⟨_, rfl⟩
      rw [← hwl]
      rw [← hwl] at hbel
      clear hwl HWR HC0 HC1
      go_wp2_with fail
      go_loopw [8, 9] (fun y x wr => ∃ i : Nat, i ≤ 9 ∧ x = .int .i64 (i : Int) ∧ (∃ uo uc, y = .slice uo i uc ∧ Hid (OwR u.heap.size wr uo i uc nR nV)) ∧ Hid (Below u.heap.size u wr)) (fun _ x _ => 9 - (intOf x).toNat)
      case atStart => exact ⟨0, Nat.zero_le _, rfl, ⟨none, 0, rfl, owr_nil _ _ _ _⟩, hbel⟩
      case round =>
        clear hlt hlti hi hbel
        obtain ⟨i, hi, rfl, ⟨uo, uc, rfl, hown⟩, hbel⟩ := hrel
        by_cases hlt : i < 9
        · obtain ⟨l0, l1⟩ := HL.out wr hbel.out
          have hlti : (i : Int) < 9 := by omega
          have HO : Hid (OwR u.heap.size wr uo i uc nR nV) := hown.out
          have HG : Hid (∀ g, (Value.slice uo i uc).ownBlock = some g → u.heap.size ≤ g) := ownr_ge HO.out
          go_wp2_with (at_builtin; refine wpList_append_refs (by rfl) (.tmp 77) (.tmp 79) (by rfl) u.heap.size i 1 uc 1 uo (some ⟨wr.heap.size, 0, none⟩) nR nV (fun _ => 31) (fun _ => 1073741824) (by rfl) (by rfl) (HO.out.below (below_alloc _ _)) (rec_one wr 31 1073741824) (by omega) (by have := hbel.out.size; simp; omega) ?_; intro u2 c2 wx h2 g2; have HO2 : Hid (OwR u.heap.size wx u2 (i + 1) c2 nR nV) := (by have h3 := h2; rw [show (fun _ => (31 : Int)) = nR from rfl, show (fun _ => (1073741824 : Int)) = nV from rfl, (nR_app i).1, (nR_app i).2] at h3; exact h3); have HB2 : Hid (Below u.heap.size u wx) := (hbel.out.alloc hbel.out.size _).grown g2 (by have := hbel.out.size; simp; omega) HG.out; clear h2 g2)
          exact ⟨⟨i + 1, by omega, by go_num, ⟨_, _, rfl, HO2⟩, HB2⟩, by simp [intOf]; omega⟩
        · have hlti : ¬ (i : Int) < 9 := by omega
          obtain rfl : i = 9 := by omega
          obtain ⟨wn, hwn⟩ : ∃ wn, wn = wr := ⟨_, rfl⟩
          rw [← hwn]
          rw [← hwn] at hbel hown
          clear hwn
          obtain ⟨g9, rfl, _, _⟩ := hown.out.at_ (by omega)
          have HBwn : Hid (Below u.heap.size u wn) := hbel.out
          have Hninewn : Hid (OwR u.heap.size wn (some ⟨g9, 0, none⟩) 9 uc nR nV) := hown.out
          obtain ⟨c9, hc9⟩ : ∃ c, c = uc := ⟨_, rfl⟩
          rw [← hc9] at Hninewn ⊢
          clear hbel hown hlt hlti hi hc9
          obtain ⟨j0, hj, hj0, hj1, hj2⟩ := info_parts info27
          obtain ⟨l0, l1⟩ := HL.out wn HBwn.out
          have hroom : 9 ≤ c9 := Hninewn.out.rec.room
          have hroomi : (9 : Int) ≤ (c9 : Int) := by omega
          have hol : (rvl nR nV 9).length = 9 * 2 := rvl_length nR nV 9
          have HOLD : Hid (∀ o, ∀ b, some (⟨g9, 0, none⟩ : Addr) = some b → ∀ j x, (rvl nR nV 9)[j]? = some x → (wn.alloc o).drew.cell? (b.add j) = some x) := fun o b e => by cases e; exact rec_news (Hninewn.out.below (below_then (below_alloc _ _) (below_drew _ _))).rec
          obtain ⟨OLD, hOLD⟩ : ∃ X, X = rvl nR nV 9 := ⟨_, rfl⟩
          rw [← hOLD] at hol HOLD
          have HAPP : Hid (∀ w2 B g c, w2.ownsRow B 27 2 (.slice (some ⟨g, 0, none⟩) 10 c) 10 (OLD ++ [.int .i64 31, .int .i64 1073741824]) → OwR B w2 (some ⟨g, 0, none⟩) 10 c nR nV) := fun w2 B g c h => by rw [hOLD] at h; exact h
          clear hOLD
          go_wp2_with fail
          go_region_held3 (fun v => v.cell? ⟨pb + 1, 0, none⟩ = some (.int .i64 31) ∧ v.cell? ⟨pb + 1, 1, none⟩ = some (.int .i64 1073741824)) (go_keep)
            (((with_reducible show if Region.wanted { dst := some 85, op := _, type := _, pos := _, after := _, guard := _ } _ = true then _ else _); refine Go.step_append_grows (by rfl) (.tmp 82) (.tmp 84) 28 (by rfl) 27 j0 (.agg #[.int .i64 0, .int .i64 0]) 2 16 Try.underlying28 hj hj0 hj1 hj2 (by rfl) (by decide) (some ⟨g9, 0, none⟩) 9 9 OLD (by simp [Act.eval]) (fun e => by cases e) hol (HOLD.out _) ⟨wn.heap.size, 0, none⟩ 1 1 [.int .i64 31, .int .i64 1073741824] (by simp [Act.eval]) (by rfl) (news_drew wn #[.int .i64 31, .int .i64 1073741824] 27) (by simp [Value.oneCell']) (by decide) (by unfold maxLen; omega) (by omega) ?_; intro v' wt hown hgrow; obtain ⟨gt, ct, rfl⟩ := row_form hown (by omega); have hbt : Below wn.heap.size wn wt := Below.grown (below_then (below_alloc wn _) (below_drew _ _)) hgrow (by show _ ≤ (wn.alloc _).heap.size; simp) (fun k e => by cases e); obtain ⟨m0, m1⟩ := HL.out wt (below_then HBwn.out hbt)))
          have Hninewt : Hid (OwR u.heap.size wt (some ⟨g9, 0, none⟩) 9 c9 nR nV) := Hninewn.out.below hbt
          have HBwt : Hid (Below u.heap.size u wt) := below_then HBwn.out hbt
          have Htenwt : Hid (OwR u.heap.size wt (some ⟨gt, 0, none⟩) 10 ct nR nV) := (HAPP.out _ _ _ _ hown).mono (by have h7 := HBwn.out.size; show _ ≤ (wn.alloc _).heap.size; simp; omega)
          clear Hninewn
          clear hbt hown hgrow l0 l1 m0 m1 hroom hroomi hol HOLD HAPP
          obtain ⟨l0, l1⟩ := HL.out wt HBwt.out
          have hroom : 10 ≤ ct := Htenwt.out.rec.room
          have hroomi : (10 : Int) ≤ (ct : Int) := by omega
          have hol : (rvl nR nV 10).length = 10 * 2 := rvl_length nR nV 10
          have HOLD : Hid (∀ o, ∀ b, some (⟨gt, 0, none⟩ : Addr) = some b → ∀ j x, (rvl nR nV 10)[j]? = some x → (wt.alloc o).drew.cell? (b.add j) = some x) := fun o b e => by cases e; exact rec_news (Htenwt.out.below (below_then (below_alloc _ _) (below_drew _ _))).rec
          obtain ⟨OLD, hOLD⟩ : ∃ X, X = rvl nR nV 10 := ⟨_, rfl⟩
          rw [← hOLD] at hol HOLD
          have HAPP : Hid (∀ w2 B g c, w2.ownsRow B 27 2 (.slice (some ⟨g, 0, none⟩) 11 c) 11 (OLD ++ [.int .i64 31, .int .i64 1073741824]) → OwR B w2 (some ⟨g, 0, none⟩) 11 c nR nV) := fun w2 B g c h => by rw [hOLD] at h; exact h
          clear hOLD
          go_wp2_with fail
          go_region_held3 (fun v => v.cell? ⟨pb + 1, 0, none⟩ = some (.int .i64 31) ∧ v.cell? ⟨pb + 1, 1, none⟩ = some (.int .i64 1073741824)) (go_keep)
            (((with_reducible show if Region.wanted { dst := some 90, op := _, type := _, pos := _, after := _, guard := _ } _ = true then _ else _); refine Go.step_append_grows (by rfl) (.tmp 87) (.tmp 89) 28 (by rfl) 27 j0 (.agg #[.int .i64 0, .int .i64 0]) 2 16 Try.underlying28 hj hj0 hj1 hj2 (by rfl) (by decide) (some ⟨gt, 0, none⟩) 10 10 OLD (by simp [Act.eval]) (fun e => by cases e) hol (HOLD.out _) ⟨wt.heap.size, 0, none⟩ 1 1 [.int .i64 31, .int .i64 1073741824] (by simp [Act.eval]) (by rfl) (news_drew wt #[.int .i64 31, .int .i64 1073741824] 27) (by simp [Value.oneCell']) (by decide) (by unfold maxLen; omega) (by omega) ?_; intro v' we hown hgrow; obtain ⟨ge, ce, rfl⟩ := row_form hown (by omega); have hbt : Below wt.heap.size wt we := Below.grown (below_then (below_alloc wt _) (below_drew _ _)) hgrow (by show _ ≤ (wt.alloc _).heap.size; simp) (fun k e => by cases e); obtain ⟨m0, m1⟩ := HL.out we (below_then HBwt.out hbt)))
          have Hninewe : Hid (OwR u.heap.size we (some ⟨g9, 0, none⟩) 9 c9 nR nV) := Hninewt.out.below hbt
          have Htenwe : Hid (OwR u.heap.size we (some ⟨gt, 0, none⟩) 10 ct nR nV) := Htenwt.out.below hbt
          have HBwe : Hid (Below u.heap.size u we) := below_then HBwt.out hbt
          have Helevwe : Hid (OwR u.heap.size we (some ⟨ge, 0, none⟩) 11 ce nR nV) := (HAPP.out _ _ _ _ hown).mono (by have h7 := HBwt.out.size; show _ ≤ (wt.alloc _).heap.size; simp; omega)
          clear Hninewt Htenwt
          clear hbt hown hgrow l0 l1 m0 m1 hroom hroomi hol HOLD HAPP
          clear hj hj0 hj1 hj2
          obtain ⟨p0, p1, p2, p3⟩ := HP.out we HBwe.out
          go_wp2_with fail
          refine (CL10 we _ _ Htenwe.out.rec).mono ?_
          rintro e x1 ⟨ao, cf, rfl, ho, hx⟩
          obtain ⟨gf, rfl, _, _⟩ := ho.at_ (by omega)
          have Hninex1 : Hid (OwR u.heap.size x1 (some ⟨g9, 0, none⟩) 9 c9 nR nV) := Hninewe.out.below hx
          have Htenx1 : Hid (OwR u.heap.size x1 (some ⟨gt, 0, none⟩) 10 ct nR nV) := Htenwe.out.below hx
          have Helevx1 : Hid (OwR u.heap.size x1 (some ⟨ge, 0, none⟩) 11 ce nR nV) := Helevwe.out.below hx
          have HBx1 : Hid (Below u.heap.size u x1) := below_then HBwe.out hx
          have Hleafx1 : Hid (OwU u.heap.size x1 (some ⟨gf, 0, none⟩) 64 cf nL) := ho.mono HBwe.out.size
          clear Hninewe Htenwe Helevwe
          clear hx p0 p1 p2 p3
          obtain ⟨p0, p1, p2, p3⟩ := HP.out x1 HBx1.out
          go_wp2_with fail
          refine (CL11 x1 _ _ Helevx1.out.rec).mono ?_
          rintro e x2 ⟨ao, cp, rfl, _, hx⟩
          have Hninex2 : Hid (OwR u.heap.size x2 (some ⟨g9, 0, none⟩) 9 c9 nR nV) := Hninex1.out.below hx
          have Htenx2 : Hid (OwR u.heap.size x2 (some ⟨gt, 0, none⟩) 10 ct nR nV) := Htenx1.out.below hx
          clear Helevx1
          have Hleafx2 : Hid (OwU u.heap.size x2 (some ⟨gf, 0, none⟩) 64 cf nL) := Hleafx1.out.below hx
          have HBx2 : Hid (Below u.heap.size u x2) := below_then HBx1.out hx
          clear Hninex1 Htenx1 Hleafx1
          clear hx p0 p1 p2 p3
          obtain ⟨p0, p1, p2, p3⟩ := HP.out x2 HBx2.out
          go_wp2_with fail
          refine (CR10 x2 _ _ Hleafx2.out.bec).mono ?_
          rintro e x3 ⟨ao, kc, rfl, ho, hx⟩
          obtain ⟨gk, rfl, _, _⟩ := ho.at_ (by omega)
          have Hninex3 : Hid (OwR u.heap.size x3 (some ⟨g9, 0, none⟩) 9 c9 nR nV) := Hninex2.out.below hx
          have Htenx3 : Hid (OwR u.heap.size x3 (some ⟨gt, 0, none⟩) 10 ct nR nV) := Htenx2.out.below hx
          have Hleafx3 : Hid (OwU u.heap.size x3 (some ⟨gf, 0, none⟩) 64 cf nL) := Hleafx2.out.below hx
          have HBx3 : Hid (Below u.heap.size u x3) := below_then HBx2.out hx
          have Hbackx3 : Hid (OwR u.heap.size x3 (some ⟨gk, 0, none⟩) 10 kc (rdR nL 0) (rdV nL 0)) := ho.mono HBx2.out.size
          clear Hninex2 Htenx2 Hleafx2
          clear hx p0 p1 p2 p3
          obtain ⟨p0, p1, p2, p3⟩ := HP.out x3 HBx3.out
          go_wp2_with fail
          refine (CR11 x3 _ _ Hleafx3.out.bec).mono ?_
          rintro e x4 ⟨ao2, cp2, rfl, _, hx⟩
          have Hninex4 : Hid (OwR u.heap.size x4 (some ⟨g9, 0, none⟩) 9 c9 nR nV) := Hninex3.out.below hx
          have Htenx4 : Hid (OwR u.heap.size x4 (some ⟨gt, 0, none⟩) 10 ct nR nV) := Htenx3.out.below hx
          clear Hleafx3
          have Hbackx4 : Hid (OwR u.heap.size x4 (some ⟨gk, 0, none⟩) 10 kc (rdR nL 0) (rdV nL 0)) := Hbackx3.out.below hx
          have HBx4 : Hid (Below u.heap.size u x4) := below_then HBx3.out hx
          clear Hninex3 Htenx3 Hbackx3
          clear hx p0 p1 p2 p3
          obtain ⟨p0, p1, p2, p3⟩ := HP.out x4 HBx4.out
          go_wp2_with fail
          refine (CBB x4 _ _ Hninex4.out.rec).mono ?_
          rintro e y1 ⟨ao3, bc, rfl, ho, hx⟩
          obtain ⟨gb, rfl, _, _⟩ := ho.at_ (by omega)
          have Hniney1 : Hid (OwR u.heap.size y1 (some ⟨g9, 0, none⟩) 9 c9 nR nV) := Hninex4.out.below hx
          have Hteny1 : Hid (OwR u.heap.size y1 (some ⟨gt, 0, none⟩) 10 ct nR nV) := Htenx4.out.below hx
          have Hbacky1 : Hid (OwR u.heap.size y1 (some ⟨gk, 0, none⟩) 10 kc (rdR nL 0) (rdV nL 0)) := Hbackx4.out.below hx
          have HBy1 : Hid (Below u.heap.size u y1) := below_then HBx4.out hx
          have Hbby1 : Hid (OwU u.heap.size y1 (some ⟨gb, 0, none⟩) 64 bc nB) := ho.mono HBx4.out.size
          clear Hninex4 Htenx4 Hbackx4
          clear hx p0 p1 p2 p3
          obtain ⟨p0, p1, p2, p3⟩ := HP.out y1 HBy1.out
          have hroom : 9 ≤ c9 := Hniney1.out.rec.room
          have hr1 : 1 ≤ c9 := by omega
          have hr2 : (1 : Int) ≤ (c9 : Int) := by omega
          have HT : Hid (∀ v, Below y1.drew.heap.size y1.drew v → Below u.heap.size u v) := fun v hv => below_then HBy1.out (of_drew hv)
          have C25 := CBC y1.drew (some ⟨g9, 0, none⟩) c9 (OwR.fewer (Hniney1.out.below (below_drew _ _)) 1 (by omega) (by omega))
          clear hroom
          go_wp2_with fail
          go_region_held3 (fun v => v.cell? ⟨pb, 0, none⟩ = some (.int .i64 4) ∧ v.cell? ⟨pb, 1, none⟩ = some (.int .i64 2) ∧ v.cell? ⟨pb, 2, none⟩ = some (.int .i64 16) ∧ v.cell? ⟨pb, 3, none⟩ = some (.int .i64 32)) (go_keep)
            ((go_at_call 14; refine C25.mono ?_; rintro e y2 ⟨ao4, cc, rfl, ho, hx0⟩; obtain ⟨q0, q1, q2, q3⟩ := HP.out _ (HT.out _ hx0)))
          obtain ⟨gc, rfl, _, _⟩ := ho.at_ (by omega)
          have hx : Below y1.heap.size y1 y2 := of_drew hx0
          have Hniney2 : Hid (OwR u.heap.size y2 (some ⟨g9, 0, none⟩) 9 c9 nR nV) := Hniney1.out.below hx
          have Hteny2 : Hid (OwR u.heap.size y2 (some ⟨gt, 0, none⟩) 10 ct nR nV) := Hteny1.out.below hx
          have Hbacky2 : Hid (OwR u.heap.size y2 (some ⟨gk, 0, none⟩) 10 kc (rdR nL 0) (rdV nL 0)) := Hbacky1.out.below hx
          have Hbby2 : Hid (OwU u.heap.size y2 (some ⟨gb, 0, none⟩) 64 bc nB) := Hbby1.out.below hx
          have HBy2 : Hid (Below u.heap.size u y2) := below_then HBy1.out hx
          have Hccy2 : Hid (OwU u.heap.size y2 (some ⟨gc, 0, none⟩) 64 cc nC) := ho.mono (by have := HBy1.out.size; exact this)
          clear Hniney1 Hteny1 Hbacky1 Hbby1
          clear hx hx0 ho C25 HT hr1 hr2 p0 p1 p2 p3 q0 q1 q2 q3
          obtain ⟨p0, p1, p2, p3⟩ := HP.out y2 HBy2.out
          go_wp2_with fail
          refine (CBM y2 _ _ Hniney2.out.rec).mono ?_
          rintro e y3 ⟨ao5, mc, rfl, ho, hx⟩
          obtain ⟨gm, rfl, _, _⟩ := ho.at_ (by omega)
          clear Hniney2
          have Hteny3 : Hid (OwR u.heap.size y3 (some ⟨gt, 0, none⟩) 10 ct nR nV) := Hteny2.out.below hx
          have Hbacky3 : Hid (OwR u.heap.size y3 (some ⟨gk, 0, none⟩) 10 kc (rdR nL 0) (rdV nL 0)) := Hbacky2.out.below hx
          have Hbby3 : Hid (OwU u.heap.size y3 (some ⟨gb, 0, none⟩) 64 bc nB) := Hbby2.out.below hx
          have Hccy3 : Hid (OwU u.heap.size y3 (some ⟨gc, 0, none⟩) 64 cc nC) := Hccy2.out.below hx
          have HBy3 : Hid (Below u.heap.size u y3) := below_then HBy2.out hx
          have Hmmy3 : Hid (OwU u.heap.size y3 (some ⟨gm, 0, none⟩) 64 mc nM) := ho.mono HBy2.out.size
          clear Hteny2 Hbacky2 Hbby2 Hccy2
          clear hx p0 p1 p2 p3
          obtain ⟨p0, p1, p2, p3⟩ := HP.out y3 HBy3.out
          go_wp2_with fail
          refine (CB8 y3 _ _ Hteny3.out.rec).mono ?_
          rintro e y4 ⟨ao6, cp6, rfl, _, hx⟩
          have Hteny4 : Hid (OwR u.heap.size y4 (some ⟨gt, 0, none⟩) 10 ct nR nV) := Hteny3.out.below hx
          have Hbacky4 : Hid (OwR u.heap.size y4 (some ⟨gk, 0, none⟩) 10 kc (rdR nL 0) (rdV nL 0)) := Hbacky3.out.below hx
          have Hbby4 : Hid (OwU u.heap.size y4 (some ⟨gb, 0, none⟩) 64 bc nB) := Hbby3.out.below hx
          have Hccy4 : Hid (OwU u.heap.size y4 (some ⟨gc, 0, none⟩) 64 cc nC) := Hccy3.out.below hx
          have Hmmy4 : Hid (OwU u.heap.size y4 (some ⟨gm, 0, none⟩) 64 mc nM) := Hmmy3.out.below hx
          have HBy4 : Hid (Below u.heap.size u y4) := below_then HBy3.out hx
          clear Hteny3 Hbacky3 Hbby3 Hccy3 Hmmy3
          clear hx p0 p1 p2 p3
          obtain ⟨p0, p1, p2, p3⟩ := HP.out y4 HBy4.out
          go_wp2_with fail
          refine (CB9 y4 _ _ Hteny4.out.rec).mono ?_
          rintro e y5 ⟨ao7, cp7, rfl, _, hx⟩
          clear Hteny4
          have Hbacky5 : Hid (OwR u.heap.size y5 (some ⟨gk, 0, none⟩) 10 kc (rdR nL 0) (rdV nL 0)) := Hbacky4.out.below hx
          have Hbby5 : Hid (OwU u.heap.size y5 (some ⟨gb, 0, none⟩) 64 bc nB) := Hbby4.out.below hx
          have Hccy5 : Hid (OwU u.heap.size y5 (some ⟨gc, 0, none⟩) 64 cc nC) := Hccy4.out.below hx
          have Hmmy5 : Hid (OwU u.heap.size y5 (some ⟨gm, 0, none⟩) 64 mc nM) := Hmmy4.out.below hx
          have HBy5 : Hid (Below u.heap.size u y5) := below_then HBy4.out hx
          clear Hbacky4 Hbby4 Hccy4 Hmmy4
          clear hx p0 p1 p2 p3
          go_wp2_with fail
          refine (CPN y5).mono ?_
          rintro e y6 ⟨ao8, cp8, rfl, _, hx⟩
          have Hbacky6 : Hid (OwR u.heap.size y6 (some ⟨gk, 0, none⟩) 10 kc (rdR nL 0) (rdV nL 0)) := Hbacky5.out.below hx
          have Hbby6 : Hid (OwU u.heap.size y6 (some ⟨gb, 0, none⟩) 64 bc nB) := Hbby5.out.below hx
          have Hccy6 : Hid (OwU u.heap.size y6 (some ⟨gc, 0, none⟩) 64 cc nC) := Hccy5.out.below hx
          have Hmmy6 : Hid (OwU u.heap.size y6 (some ⟨gm, 0, none⟩) 64 mc nM) := Hmmy5.out.below hx
          have HBy6 : Hid (Below u.heap.size u y6) := below_then HBy5.out hx
          clear Hbacky5 Hbby5 Hccy5 Hmmy5
          clear hx
          obtain ⟨y7, hy7⟩ : ∃ y7, y7 = y6.alloc (.cells #[.int .i64 0, .int .i64 0, .slice ao8 0 cp8] 35) := ⟨_, rfl⟩
          have hx : Below y6.heap.size y6 y7 := by rw [hy7]; exact below_alloc _ _
          obtain ⟨p0, p1, p2, p3⟩ := HP.out y6 HBy6.out
          have P0 := fun o => held p0 (below_alloc y6 o)
          have P1 := fun o => held p1 (below_alloc y6 o)
          have P2 := fun o => held p2 (below_alloc y6 o)
          have P3 := fun o => held p3 (below_alloc y6 o)
          go_wp2_with fail
          rw [← hy7]
          clear hy7 P0 P1 P2 P3 p0 p1 p2 p3
          have Hbacky7 : Hid (OwR u.heap.size y7 (some ⟨gk, 0, none⟩) 10 kc (rdR nL 0) (rdV nL 0)) := Hbacky6.out.below hx
          have Hbby7 : Hid (OwU u.heap.size y7 (some ⟨gb, 0, none⟩) 64 bc nB) := Hbby6.out.below hx
          have Hccy7 : Hid (OwU u.heap.size y7 (some ⟨gc, 0, none⟩) 64 cc nC) := Hccy6.out.below hx
          have Hmmy7 : Hid (OwU u.heap.size y7 (some ⟨gm, 0, none⟩) 64 mc nM) := Hmmy6.out.below hx
          have HBy7 : Hid (Below u.heap.size u y7) := below_then HBy6.out hx
          clear Hbacky6 Hbby6 Hccy6 Hmmy6
          clear hx
          refine (CR0 y7).mono ?_
          rintro e y8 ⟨ao9, cp9, rfl, _, hx⟩
          have Hbacky8 : Hid (OwR u.heap.size y8 (some ⟨gk, 0, none⟩) 10 kc (rdR nL 0) (rdV nL 0)) := Hbacky7.out.below hx
          have Hbby8 : Hid (OwU u.heap.size y8 (some ⟨gb, 0, none⟩) 64 bc nB) := Hbby7.out.below hx
          have Hccy8 : Hid (OwU u.heap.size y8 (some ⟨gc, 0, none⟩) 64 cc nC) := Hccy7.out.below hx
          have Hmmy8 : Hid (OwU u.heap.size y8 (some ⟨gm, 0, none⟩) 64 mc nM) := Hmmy7.out.below hx
          have HBy8 : Hid (Below u.heap.size u y8) := below_then HBy7.out hx
          clear Hbacky7 Hbby7 Hccy7 Hmmy7
          clear hx
          go_wp2_with fail
          have HS : Hid (∀ v, Below y8.heap.size y8 v → (v.cell? ⟨pb + 1, 0, none⟩ = some (.int .i64 31) ∧ v.cell? ⟨pb + 1, 1, none⟩ = some (.int .i64 1073741824) ∧ v.cell? ⟨gk, 18, none⟩ = some (.int .i64 31) ∧ v.cell? ⟨gk, 19, none⟩ = some (.int .i64 1073741824) ∧ v.cell? ⟨gb, 2, none⟩ = some (.int .u8 2) ∧ v.cell? ⟨gb, 3, none⟩ = some (.int .u8 64) ∧ v.cell? ⟨gb, 6, none⟩ = some (.int .u8 9) ∧ v.cell? ⟨gc, 4, none⟩ = some (.int .u8 1) ∧ v.cell? ⟨gc, 6, none⟩ = some (.int .u8 1) ∧ v.cell? ⟨gc, 9, none⟩ = some (.int .u8 64) ∧ v.cell? ⟨gm, 2, none⟩ = some (.int .u8 22) ∧ v.cell? ⟨gm, 3, none⟩ = some (.int .u8 128))) := fun v hv => by
            obtain ⟨l0, l1⟩ := HL.out v (below_then HBy8.out hv)
            obtain ⟨k0, k1⟩ := (Hbacky8.out.below hv).cell (i := 9) (by omega)
            have b2 := (Hbby8.out.below hv).cell (i := 2) (by omega)
            have b3 := (Hbby8.out.below hv).cell (i := 3) (by omega)
            have b6 := (Hbby8.out.below hv).cell (i := 6) (by omega)
            have d4 := (Hccy8.out.below hv).cell (i := 4) (by omega)
            have d6 := (Hccy8.out.below hv).cell (i := 6) (by omega)
            have d9 := (Hccy8.out.below hv).cell (i := 9) (by omega)
            have m2 := (Hmmy8.out.below hv).cell (i := 2) (by omega)
            have m3 := (Hmmy8.out.below hv).cell (i := 3) (by omega)
            obtain ⟨⟨n1, n2, n3⟩, ⟨n4, n5, n6⟩, n7, n8⟩ := n_cells
            rw [n_last.1] at k0
            rw [n_last.2] at k1
            rw [n1] at b2
            rw [n2] at b3
            rw [n3] at b6
            rw [n4] at d4
            rw [n5] at d6
            rw [n6] at d9
            rw [n7] at m2
            rw [n8] at m3
            exact ⟨l0, l1, k0, k1, b2, b3, b6, d4, d6, d9, m2, m3⟩
          obtain ⟨l0, l1, k0, k1, b2, b3, b6, d4, d6, d9, m2, m3⟩ := HS.out y8 (Below.refl _ _)
          clear CL10 CL11 CR10 CR11 CR0 CBB CBC CBM CB8 CB9 CPN
          try dsimp only [List.append]
          go_region_held3 (fun v => v.cell? ⟨pb + 1, 0, none⟩ = some (.int .i64 31) ∧ v.cell? ⟨pb + 1, 1, none⟩ = some (.int .i64 1073741824) ∧ v.cell? ⟨gk, 18, none⟩ = some (.int .i64 31) ∧ v.cell? ⟨gk, 19, none⟩ = some (.int .i64 1073741824) ∧ v.cell? ⟨gb, 2, none⟩ = some (.int .u8 2) ∧ v.cell? ⟨gb, 3, none⟩ = some (.int .u8 64) ∧ v.cell? ⟨gb, 6, none⟩ = some (.int .u8 9) ∧ v.cell? ⟨gc, 4, none⟩ = some (.int .u8 1) ∧ v.cell? ⟨gc, 6, none⟩ = some (.int .u8 1) ∧ v.cell? ⟨gc, 9, none⟩ = some (.int .u8 64) ∧ v.cell? ⟨gm, 2, none⟩ = some (.int .u8 22) ∧ v.cell? ⟨gm, 3, none⟩ = some (.int .u8 128)) (go_keep) (fail)
          go_wp2_with fail
          go_ret
          exact ⟨rfl, below_then HK.out (below_then HBy8.out (below_drew _ _))⟩
end Go.Proofs.Ytjncnojplkljnaa
