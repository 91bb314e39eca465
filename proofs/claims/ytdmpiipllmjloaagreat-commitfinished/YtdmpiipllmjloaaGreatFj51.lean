/- StR: what is needed of them. -/
import Derived.Test.YtdmpiipllmjloaaGreatFj40
namespace Go.Proofs.YtdmpiipllmjloaaGreat
open Go.RowKit
/-- How many bytes are written of a drive's cell. -/
def mis (z : Nat → Sl) (m i : Nat) : Nat := if (z i).ce = 0 then m else 0
theorem mL_all {z : Nat → Sl} {m N i : Nat} (hi : i < N) : mL z (fun _ => m) N i = mis z m i := by
  unfold mL mis
  by_cases e : (z i).ce = 0
  · rw [if_neg (fun a => a.2 e), if_pos e]
  · rw [if_pos ⟨hi, e⟩, if_neg e]
theorem cnt_ex {L : Nat → Nat} {n : Nat} (h : 0 < Cod.cnt L n) : ∃ i, i < n ∧ L i ≠ 0 := ⟨Cod.sel L n 0, (Cod.sel_is L n).lt 0 h, (Cod.sel_is L n).there 0 h⟩
set_option maxHeartbeats 2000000 in
set_option maxRecDepth 100000 in
theorem Mend_any {k r c q : Int} {N W : Nat} {x : Int} (h : Par k r c q N W x) (w : World) (ro : Option Addr) (rn rc : Nat) (A : Nat → Option Addr) (L C : Nat → Nat) (F : Nat → Nat → UInt8) (hr : Rw w ro rn A L C F) (nu : Int) (kd : UInt8) (ke v : Int) (E : Int) (hE : erV2 (erW (erK x N c rn L kd v) q nu ke) (erL k.toNat (zv N c L F kd v) N) = E) :
    Calls Tryz.prog 30 #[.agg #[.int .i64 k, .int .i64 r, .int .i64 c, .int .i64 q], .slice ro rn rc, .int .i64 nu, .int .u8 ((kd.toNat : Nat) : Int), .int .i64 ke, .int .i64 v] w (AnsL w E (Cod.cnt (mis (zv N c L F kd v) c.toNat) N) N (mis (zv N c L F kd v) c.toNat) (osl N c L F kd ke) nu (sz N c) (fun i => enc (slC kd N (tS (yy N c L F) kd v (2 * N)).V c.toNat (cH k.toNat (zv N c L F kd v) N i) i))) := by
  obtain ⟨E1, hE1⟩ : ∃ E1, erW (erK x N c rn L kd v) q nu ke = E1 := ⟨_, rfl⟩
  rw [hE1] at hE
  have HA : Hid (∀ u, Below w.heap.size w u → Calls Tryz.prog 35 #[.agg #[.int .i64 k, .int .i64 r, .int .i64 c, .int .i64 q], .slice ro rn rc, .int .i64 nu, .int .u8 ((kd.toNat : Nat) : Int), .int .i64 ke, .int .i64 v] u fun e w' => e = .returned (.tuple #[if E1 = 0 then stv k r c q ro rn rc kd else stz, .int .i64 E1]) ∧ Below u.heap.size u w') := fun u hu => written_any h u ro rn rc A L C F (hr.below hu) nu kd ke v E1 hE1
  obtain ⟨w0, hw0⟩ : ∃ w0, w0 = w.alloc (.cells #[.int .i64 k, .int .i64 r, .int .i64 c, .int .i64 q] 23) := ⟨_, rfl⟩
  have B0 : Hid (Below w.heap.size w w0) := by show Below _ _ _; rw [hw0]; exact below_alloc _ _
  unfold erV2 at hE
  unfold AnsL
  by_cases he : E1 = 0
  · subst he
    rw [if_pos rfl] at hE HA
    obtain ⟨hK, _, hke⟩ := erW_zero hE1
    obtain ⟨hR, hk, hvr⟩ := erK_zero hK
    obtain ⟨rfl, rfl, hL⟩ := erR_zero hR
    have hle := h.le
    obtain ⟨c1, c2⟩ := h.cell rfl
    have hk1 : 1 ≤ k := by
      rcases h with ⟨hm, _⟩ | ⟨_, _, _, h0⟩
      · exact (may_true hm).1
      · exact absurd h0 (by decide)
    obtain ⟨z, hz⟩ : ∃ z, z = zv rn c L F kd v := ⟨_, rfl⟩
    obtain ⟨t, ht⟩ : ∃ t, t = tS (yy rn c L F) kd v (2 * rn) := ⟨_, rfl⟩
    have HCE : Hid (∀ u, Below w.heap.size w u → Calls Tryz.prog 62 #[stv k r c q ro rn rc kd, .int .i64 v] u (AnsC u E rn c.toNat (cH k.toNat z rn))) := fun u hu => by rw [← hE, hz]; exact cells_any h u ro rc A L C F (hr.below hu) hL kd hk v
    have HVE : Hid (∀ u, Below w.heap.size w u → Calls Tryz.prog 65 #[stv k r c q ro rn rc kd, .int .i64 v] u (AnsV u t)) := fun u hu => vector_any h u ro rc A L C F (hr.below hu) hL kd hk v t ht.symm
    by_cases he2 : E = 0
    · subst he2
      rw [← hz] at hE
      obtain ⟨htn, htv⟩ : t.vn = rn ∧ ∀ j, j < rn → 1 ≤ t.V j ∧ t.V j ≤ 1073741824 := by
        have hc : 0 < Cod.cnt (Lz z) rn := by
          unfold erL at hE
          by_cases g : k.toNat ≤ Cod.cnt (Lz z) rn
          · omega
          · rw [if_neg g] at hE; exact absurd hE (by decide)
        obtain ⟨i, hi, hne⟩ := cnt_ex hc
        rcases tS_is (v := v) hk (yy_ok rn c L F) (2 * rn) (Nat.le_refl _) with ⟨a, _⟩ | ⟨j, _, a2, _, a4, _⟩
        · exfalso
          apply hne
          unfold Lz
          rw [hz]
          unfold zv zz
          rw [a, if_pos (show zSl.ce = 0 from rfl)]
          rfl
        · rw [← ht] at a2
          rw [a2]; exact ⟨(ok_of a4.1).vn, (ok_of a4.1).V⟩
      have HEA : Hid (∀ wf gc gl cap T U Y, Below w.heap.size w wf → Mnl w gc gl rn cap z T (fun _ => c.toNat) U 0 wf Y → Calls Tryz.prog 63 #[stv k r c q ro rn rc kd, .int .i64 v, .func (.func 64) #[] #[.pointer (some ⟨gc, 0, none⟩)]] wf fun e w' => e = .returned (.tuple #[]) ∧ ∃ Y', Mnl w gc gl rn cap z T (fun _ => c.toNat) U rn w' Y' ∧ Only Y wf w' ∧ ∀ g, Y' g → Y g ∨ wf.heap.size ≤ g) := fun wf gc gl cap T U Y hb hc => by
        rw [hz] at hc ⊢
        refine each_any h w wf hb ro rc A L C F hr hL kd hk v _ rfl 64 _ (Mnl w gc gl rn cap (zv rn c L F kd v) T (fun _ => c.toNat) U) ⟨fun _ _ => rfl, fun d a b Y hI hb => ⟨hI.1.below hb, owns_below hI.2.1 hb, hI.2.2⟩, fun d a Y hI g hg => ?_, fun d hd u Y B hI _ _ ao ca bo cb _ => ?_⟩ _ hc
        rotate_left
        · exact mend1_any w u gc gl rn cap d hd (zv rn c L F kd v) T (fun _ => c.toNat) U Y _ _ ao ca bo cb hI
        obtain rfl := (hI.2.2 g).1 hg
        exact ⟨(owns_at hI.2.1 (a := ⟨g, 0, none⟩) rfl).1, (owns_at hI.2.1 (a := ⟨g, 0, none⟩) rfl).2.1⟩
      have HPU : Hid (∀ u, Below w.heap.size w u → ∀ vo vc lo cc Tc Uc, Vec u vo rn vc t.V → RdC u lo rn Tc (mis z c.toNat) Uc → (∀ i, i < rn → Bec u (Tc i) (mis z c.toNat i) (Uc i) (cH k.toNat z rn i)) → Calls Tryz.prog 40 #[stv k r c q ro rn rc kd, .int .i64 nu, .int .i64 ke, .slice vo rn vc, .slice lo rn cc] u fun e w' => ∃ ao cap T U, e = .returned (.slice ao (Cod.cnt (mis z c.toNat) rn) cap) ∧ PL u.heap.size w' ao (Cod.cnt (mis z c.toNat) rn) cap rn (mis z c.toNat) (osl rn c L F kd ke) nu (sz rn c) T U (fun i => enc (slC kd rn t.V c.toNat (cH k.toNat z rn i) i)) ∧ Below u.heap.size u w') := fun u hu vo vc lo cc Tc Uc hv hl hb => puts_any h u ro rc A L C F (hr.below hu) hL kd hk nu ke vo vc t.V hv htv lo cc Tc (mis z c.toNat) Uc (cH k.toNat z rn) hl hb (fun i _ => by
          unfold mis
          by_cases e : (z i).ce = 0
          · rw [if_pos e]; exact .inr rfl
          · rw [if_neg e]; exact .inl rfl)
      rw [← hz, ← ht]
      obtain ⟨m, hm⟩ : ∃ m, m = c.toNat := ⟨_, rfl⟩
      rw [← hm] at HCE HEA HPU ⊢
      obtain ⟨H, hH⟩ : ∃ H, H = cH k.toNat z rn := ⟨_, rfl⟩
      rw [← hH] at HCE HPU ⊢
      have hrn : 0 < rn := by
        rcases h with ⟨hmm, _, hN, _⟩ | ⟨_, _, _, h0⟩
        · obtain ⟨h1, h2, h3, h4, h5, h6, h7, h8, h9⟩ := may_true hmm; omega
        · exact absurd h0 (by decide)
      have HTN : Hid (t.vn = rn) := htn
      generalize osl rn c L F kd ke = os at *
      generalize sz rn c = Z at *
      clear h hr hE hE1 hK hke hR hL hk hvr hz ht hm hH htn htv
      unfold stv at HA HCE HVE HEA HPU
      unfold AnsC at HCE
      unfold AnsV at HVE
      rw [HTN.out] at HVE
      rw [show lenE 0 rn = rn from if_pos rfl] at HCE
      obtain ⟨cn, hcn⟩ : ∃ cn, cn = Cod.cnt (mis z m) rn := ⟨_, rfl⟩
      rw [← hcn] at HPU ⊢
      clear hcn
      rw [show lenE 0 cn = cn from if_pos rfl]
      go_enter Tryz.func30, Tryz.ntmps30
      go_wp2_with fail
      rw [← hw0]
      clear hw0
      refine (HA.out _ B0.out).mono ?_
      rintro e wa ⟨rfl, ha⟩
      obtain ⟨w2, hw2⟩ : ∃ w2, w2 = wa.alloc (.cells #[.int .i64 k, .int .i64 r, .int .i64 c, .int .i64 q, .slice ro rn rc, .int .u8 ((kd.toNat : Nat) : Int)] 90) := ⟨_, rfl⟩
      have ba : Below w.heap.size w wa := below_then B0.out ha
      have HB2 : Hid (Below w.heap.size w w2) := by show Below _ _ _; rw [hw2]; exact below_then ba (below_alloc _ _)
      have L2 : Hid (∀ v, Below w2.heap.size w2 v → At w v wa.heap.size #[.int .i64 k, .int .i64 r, .int .i64 c, .int .i64 q, .slice ro rn rc, .int .u8 ((kd.toNat : Nat) : Int)] 90) := fun v hv => (at_made ba hw2).below hv
      clear ha ba
      go_wp2_with fail
      rw [← hw2]
      clear hw2
      refine (HCE.out _ HB2.out).mono ?_
      rintro e wb ⟨ao, cap, T, U, rfl, hc, hb⟩
      obtain ⟨gl, rfl⟩ : ∃ gl, ao = some ⟨gl, 0, none⟩ := by
        rcases hc.out.2 with ⟨_, h1⟩ | ⟨g, cap', cur, h1, _⟩
        · omega
        · cases h1; exact ⟨g, rfl⟩
      obtain ⟨w3, hw3⟩ : ∃ w3, w3 = wb.alloc (.cells #[.slice (some ⟨gl, 0, none⟩) rn cap] 75) := ⟨_, rfl⟩
      have b3 : Below w2.heap.size w2 w3 := by rw [hw3]; exact below_then hb (below_alloc _ _)
      have bw3 : Below w.heap.size w w3 := below_then HB2.out b3
      have hmn : Mnl w wb.heap.size gl rn cap z T (fun _ => m) U 0 w3 (fun g => g = gl) := by
        refine ⟨at_made (below_then HB2.out hb) hw3, ?_, fun g => Iff.rfl⟩
        have e1 : mT z T 0 = T := by funext i; exact if_neg (fun a => by omega)
        have e2 : mL z (fun _ => m) 0 = fun _ => m := by funext i; exact if_neg (fun a => by omega)
        have e3 : mL z U 0 = U := by funext i; exact if_neg (fun a => by omega)
        rw [e1, e2, e3]
        exact owns_mono (owns_below hc.out (by rw [hw3]; exact below_alloc _ _)) HB2.out.size
      have hE2 := HEA.out w3 wb.heap.size gl cap T U (fun g => g = gl) bw3 hmn
      have qs := fun o => ((L2.out wb hb).alloc o)
      have s0 := fun o => (qs o).cell (i := 0) rfl
      have s1 := fun o => (qs o).cell (i := 1) rfl
      have s2 := fun o => (qs o).cell (i := 2) rfl
      have s3 := fun o => (qs o).cell (i := 3) rfl
      have s4 := fun o => (qs o).cell (i := 4) rfl
      have s5 := fun o => (qs o).cell (i := 5) rfl
      have HC3 : Hid (Cls w2.heap.size w3 (some ⟨gl, 0, none⟩) rn cap m T U H) := hc.below (by rw [hw3]; exact below_alloc _ _)
      have HB3 : Hid (Below w2.heap.size w2 w3) := b3
      have HGL : Hid (w2.heap.size ≤ gl) := (owns_at hc.out (a := ⟨gl, 0, none⟩) rfl).1
      clear hb hc b3 bw3 hmn qs
      go_wp2_with fail
      rw [← hw3]
      clear hw3 s0 s1 s2 s3 s4 s5
      refine hE2.mono ?_
      clear hE2
      rintro e wf ⟨rfl, Y, ⟨hAf, hof, _⟩, hO, _⟩
      have hbf : Below w2.heap.size w2 wf := HB3.out.trans (hO.below (fun i hi => by have := HGL.out; omega) HB3.out.size)
      have HBF : Hid (Below w2.heap.size w2 wf) := hbf
      have HBW : Hid (Below w.heap.size w wf) := below_then HB2.out hbf
      have HAF : Hid (At w wf wb.heap.size #[.slice (some ⟨gl, 0, none⟩) rn cap] 75) := hAf
      have HLF : Hid (wf.ownsRow w.heap.size 55 1 (.slice (some ⟨gl, 0, none⟩) rn cap) rn (Cod.rowsOf rn (mT z T rn) (mL z (fun _ => m) rn) (mL z U rn))) := hof
      have HRF : Hid (∀ i, i < rn → OwU w2.heap.size wf (T i) m (U i) (H i)) := fun i hi => owns_blocks (HC3.out.row i hi) fun a ha => by
        obtain ⟨_, hl, cur, hcc⟩ := owns_at (HC3.out.row i hi) ha
        refine hO.block _ hl fun e1 => ?_
        obtain ⟨_, _, cur', hcc'⟩ := owns_at HC3.out.out (a := ⟨gl, 0, none⟩) rfl
        rw [e1] at hcc
        simp only at hcc'
        rw [hcc'] at hcc
        cases hcc
      have CH : Hid (∀ u, Below wf.heap.size wf u → (u.cell? ⟨wa.heap.size, 0, none⟩ = some (.int .i64 k) ∧ u.cell? ⟨wa.heap.size, 1, none⟩ = some (.int .i64 r) ∧ u.cell? ⟨wa.heap.size, 2, none⟩ = some (.int .i64 c) ∧ u.cell? ⟨wa.heap.size, 3, none⟩ = some (.int .i64 q) ∧ u.cell? ⟨wa.heap.size, 4, none⟩ = some (.slice ro rn rc) ∧ u.cell? ⟨wa.heap.size, 5, none⟩ = some (.int .u8 ((kd.toNat : Nat) : Int)) ∧ u.cell? ⟨wb.heap.size, 0, none⟩ = some (.slice (some ⟨gl, 0, none⟩) rn cap))) := fun u hu => by
        have p := L2.out u (below_then HBF.out hu)
        exact ⟨p.cell (i := 0) rfl, p.cell (i := 1) rfl, p.cell (i := 2) rfl, p.cell (i := 3) rfl, p.cell (i := 4) rfl, p.cell (i := 5) rfl, (HAF.out.below hu).cell (i := 0) rfl⟩
      obtain ⟨s0, s1, s2, s3, s4, s5, s6⟩ := CH.out wf (Below.refl _ _)
      have hVE := HVE.out wf.drew (HBW.out.trans ((below_drew _ _).mono HBW.out.size))
      have PU : Hid (∀ vo vc w8, Own wf.heap.size w8 vo rn vc t.V → Below wf.heap.size wf w8 → Calls Tryz.prog 40 #[.agg #[.int .i64 k, .int .i64 r, .int .i64 c, .int .i64 q, .slice ro rn rc, .int .u8 ((kd.toNat : Nat) : Int)], .int .i64 nu, .int .i64 ke, .slice vo rn vc, .slice (some ⟨gl, 0, none⟩) rn cap] w8 fun e w' => ∃ ao cap T U, e = .returned (.slice ao cn cap) ∧ PL w8.heap.size w' ao cn cap rn (mis z m) os nu Z T U (fun i => enc (slC kd rn t.V m (H i) i)) ∧ Below w8.heap.size w8 w') := fun vo vc w8 hvo h8 => by
        have ho8 := owns_below HLF.out h8
        refine HPU.out w8 (below_then HBW.out h8) vo vc _ cap (mT z T rn) (mL z U rn) hvo.vec (fun hp => ⟨gl, 0, rfl, fun i hi => ?_⟩) (fun i hi => ?_)
        · have := ho8.cells (g := gl) rfl i _ (Cod.rowsOf_get rn _ _ _ i hi)
          rw [Addr.add_lit, mL_all hi] at this
          exact this
        · have hrow := ((HRF.out i hi).below h8).bec
          unfold mis mT mL
          by_cases e : (z i).ce = 0
          · rw [if_pos e, if_neg (fun a => a.2 e), if_neg (fun a => a.2 e)]; exact hrow
          · rw [if_neg e, if_pos ⟨hi, e⟩, if_pos ⟨hi, e⟩]; exact bec_nil _ _
      clear hAf hof hO hbf
      go_wp2_with fail
      go_region_held3 (fun u => u.cell? ⟨wa.heap.size, 0, none⟩ = some (.int .i64 k) ∧ u.cell? ⟨wa.heap.size, 1, none⟩ = some (.int .i64 r) ∧ u.cell? ⟨wa.heap.size, 2, none⟩ = some (.int .i64 c) ∧ u.cell? ⟨wa.heap.size, 3, none⟩ = some (.int .i64 q) ∧ u.cell? ⟨wa.heap.size, 4, none⟩ = some (.slice ro rn rc) ∧ u.cell? ⟨wa.heap.size, 5, none⟩ = some (.int .u8 ((kd.toNat : Nat) : Int)) ∧ u.cell? ⟨wb.heap.size, 0, none⟩ = some (.slice (some ⟨gl, 0, none⟩) rn cap)) (go_keep) ((first
        | (go_at_call 65; refine hVE.mono ?_; rintro e w8 ⟨vo, vc, rfl, hvo, _, h8⟩; have H8 : Hid (Below wf.heap.size wf w8) := of_drew' h8; have hpu := And.intro trivial (PU.out vo vc w8 hvo H8.out); have HP8 : Hid _ := hpu; obtain ⟨e0, e1, e2, e3, e4, e5, e6⟩ := CH.out w8 H8.out; clear hvo h8 hpu)
        | (go_at_call 40; refine HP8.out.2.mono ?_; rintro e w9 ⟨qo, qc, QT, QU, rfl, hpl, h9⟩; have H9 : Hid (Below wf.heap.size wf w9) := below_then H8.out h9; have HPL : Hid (PL w8.heap.size w9 qo cn qc rn (mis z m) os nu Z QT QU (fun i => enc (slC kd rn t.V m (H i) i))) := hpl; obtain ⟨f0, f1, f2, f3, f4, f5, f6⟩ := CH.out w9 H9.out; clear hpl h9)))
      go_wp2_with fail
      go_ret2
      exact ⟨qo, qc, QT, QU, rfl, fun _ => HPL.out.mono (Nat.le_trans HBW.out.size H8.out.size), below_then HBW.out H9.out⟩
    · have e1 : (E != 0) = true := by simp [he2]
      rw [← hz, ← ht]
      generalize cH k.toNat z rn = H at *
      generalize Cod.cnt (mis z c.toNat) rn = cn at *
      rw [show lenE E cn = 0 from if_neg he2]
      have HNE : Hid (¬ E = 0) := he2
      clear h hr hE hE1 hK hke hR hL hk hvr hz ht he2 HVE
      unfold stv at HA HCE
      unfold AnsC at HCE
      go_enter Tryz.func30, Tryz.ntmps30
      go_wp2_with fail
      rw [← hw0]
      clear hw0
      refine (HA.out _ B0.out).mono ?_
      rintro e wa ⟨rfl, ha⟩
      obtain ⟨w2, hw2⟩ : ∃ w2, w2 = wa.alloc (.cells #[.int .i64 k, .int .i64 r, .int .i64 c, .int .i64 q, .slice ro rn rc, .int .u8 ((kd.toNat : Nat) : Int)] 90) := ⟨_, rfl⟩
      have HB2 : Hid (Below w.heap.size w w2) := by show Below _ _ _; rw [hw2]; exact below_then (below_then B0.out ha) (below_alloc _ _)
      clear ha
      go_wp2_with fail
      rw [← hw2]
      clear hw2
      refine (HCE.out _ HB2.out).mono ?_
      rintro e wb ⟨ao, cap, T, U, rfl, hc, hb⟩
      go_wp2_with fail
      go_ret2
      exact ⟨none, 0, fun _ => none, fun _ => 0, rfl, (fun e => absurd e HNE.out), below_then (below_then HB2.out hb) (below_alloc _ _)⟩
  · rw [if_neg he] at hE HA
    subst hE
    have e1 : (E1 != 0) = true := by simp [he]
    generalize Cod.cnt (mis (zv N c L F kd v) c.toNat) N = cn at *
    rw [show lenE E1 cn = 0 from if_neg he]
    have HNE : Hid (¬ E1 = 0) := he
    clear h hr hE1 he
    unfold stz at HA
    go_enter Tryz.func30, Tryz.ntmps30
    go_wp2_with fail
    rw [← hw0]
    clear hw0
    refine (HA.out _ B0.out).mono ?_
    rintro e wa ⟨rfl, ha⟩
    go_wp2_with fail
    go_ret2
    exact ⟨none, 0, fun _ => none, fun _ => 0, rfl, (fun e => absurd e HNE.out), below_then (below_then B0.out ha) (below_alloc _ _)⟩
end Go.Proofs.YtdmpiipllmjloaaGreat
