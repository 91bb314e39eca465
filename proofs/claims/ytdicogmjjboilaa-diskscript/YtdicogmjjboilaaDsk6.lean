/- The walk of DiskScript. -/
import Derived.Test.YtdicogmjjboilaaDsk5
import Derived.Test.YtdicogmjjboilaaDskY
import Derived.Test.YtdicogmjjboilaaDskP
namespace Go.Proofs.Ytdicogmjjboilaa
open Go.RowKit

theorem img_new {w : World} {k r c q : Int} {v : Value} {w1 : World} (h : w1 = w.alloc (.cells #[.int .i64 k, .int .i64 r, .int .i64 c, .int .i64 q, v] 26)) : w1.cell? ⟨w.heap.size, 0, none⟩ = some (.int .i64 k) ∧ w1.cell? ⟨w.heap.size, 1, none⟩ = some (.int .i64 r) ∧ w1.cell? ⟨w.heap.size, 2, none⟩ = some (.int .i64 c) ∧ w1.cell? ⟨w.heap.size, 3, none⟩ = some (.int .i64 q) ∧ w1.cell? ⟨w.heap.size, 4, none⟩ = some v := by
  exact img_held h (Below.refl _ _)
theorem stp_new (w : World) (a d o u z : Int) (v : Value) : (w.alloc (.cells #[.int .u8 a, .int .i64 d, .int .i64 o, .int .i64 u, .int .i64 z, v] 42)).cell? ⟨w.heap.size, 0, none⟩ = some (.int .u8 a) ∧ (w.alloc (.cells #[.int .u8 a, .int .i64 d, .int .i64 o, .int .i64 u, .int .i64 z, v] 42)).cell? ⟨w.heap.size, 1, none⟩ = some (.int .i64 d) ∧ (w.alloc (.cells #[.int .u8 a, .int .i64 d, .int .i64 o, .int .i64 u, .int .i64 z, v] 42)).cell? ⟨w.heap.size, 2, none⟩ = some (.int .i64 o) ∧ (w.alloc (.cells #[.int .u8 a, .int .i64 d, .int .i64 o, .int .i64 u, .int .i64 z, v] 42)).cell? ⟨w.heap.size, 3, none⟩ = some (.int .i64 u) ∧ (w.alloc (.cells #[.int .u8 a, .int .i64 d, .int .i64 o, .int .i64 u, .int .i64 z, v] 42)).cell? ⟨w.heap.size, 4, none⟩ = some (.int .i64 z) ∧ (w.alloc (.cells #[.int .u8 a, .int .i64 d, .int .i64 o, .int .i64 u, .int .i64 z, v] 42)).cell? ⟨w.heap.size, 5, none⟩ = some v := by
  have hb := heap_alloc_new w (.cells #[.int .u8 a, .int .i64 d, .int .i64 o, .int .i64 u, .int .i64 z, v] 42)
  refine ⟨?_, ?_, ?_, ?_, ?_, ?_⟩ <;> (rw [World.cell?, hb]; rfl)
theorem Spl.below {w w' : World} {X : Nat → Prop} {l n : Nat} {A : Nat → Option Addr} {Ls Cs : Nat → Nat} (h : Spl w X l n A Ls Cs) (hb : Below w.heap.size w w') : Spl w' X l n A Ls Cs := by
  have hs := hb.size
  refine ⟨fun i hi => held (h.cell i hi) hb, fun i hi => (World.frozen?_of_block (hb.block l (h.lt l h.own))).trans (h.free i hi), h.own, fun b hx => Nat.lt_of_lt_of_le (h.lt b hx) hs, h.le, fun i hi => ?_⟩
  rcases h.slot i hi with q | ⟨g, e, hx, hne, hc⟩
  · exact .inl q
  · refine .inr ⟨g, e, hx, hne, fun j hj => ?_⟩
    have hbl := hb.block g (h.lt g hx)
    rw [World.cell?_of_block (a := ⟨g, j, none⟩) hbl, World.frozen?_of_block (a := ⟨g, j, none⟩) hbl]
    exact hc j hj
theorem OwB.len {B : Nat} {w : World} {ao : Option Addr} {cap : Nat} {b : List UInt8} (h : OwB B w ao cap b) : b.length ≤ 9223372036854775807 := by
  rcases h.2 with ⟨_, h0⟩ | ⟨g, cap', cur, _, _, _, hc, hm, _⟩
  · omega
  · unfold maxLen at hm; omega
theorem Pw.mono {w : World} {P P' : Nat → Prop} {ao : Option Addr} {n : Nat} {B : Nat → Option Addr} {L K : Nat → Nat} (h : Pw w P ao n B L K) (hx : ∀ b, P b → P' b) : Pw w P' ao n B L K := fun hn => by
  obtain ⟨l, e, hp, hc⟩ := h hn
  exact ⟨l, e, hx l hp, fun i hi => ⟨(hc i hi).1, (hc i hi).2.mono (fun b hb => ⟨hx b hb.1, hb.2⟩)⟩⟩
theorem pt_new (w : World) (d o u : Int) (v : Value) : (w.alloc (.cells #[.int .i64 d, .int .i64 o, .int .i64 u, v] 45)).cell? ⟨w.heap.size, 0, none⟩ = some (.int .i64 d) ∧ (w.alloc (.cells #[.int .i64 d, .int .i64 o, .int .i64 u, v] 45)).cell? ⟨w.heap.size, 1, none⟩ = some (.int .i64 o) ∧ (w.alloc (.cells #[.int .i64 d, .int .i64 o, .int .i64 u, v] 45)).cell? ⟨w.heap.size, 2, none⟩ = some (.int .i64 u) ∧ (w.alloc (.cells #[.int .i64 d, .int .i64 o, .int .i64 u, v] 45)).cell? ⟨w.heap.size, 3, none⟩ = some v := by
  have hb := heap_alloc_new w (.cells #[.int .i64 d, .int .i64 o, .int .i64 u, v] 45)
  refine ⟨?_, ?_, ?_, ?_⟩ <;> (rw [World.cell?, hb]; rfl)
theorem pus_grown {w1 wr wc w2 : World} {ao an : Option Addr} {j cap cn g2 cap2 : Nat} {D : Nat → Pt} {B : Nat → Option Addr} {K : Nat → Nat} {XS : List Value} {y : Pt} {o : Obj} (hy : y = D j) (hX : XS = ptv D B K j) (hp : Pus wr w1.heap.size ao j cap D B K) (hbw : Below w1.heap.size w1 wr) (hbb : Below wr.heap.size wr wc) (h1 : RdB wc an y.b) (h2 : ∀ a, an = some a → wr.heap.size ≤ a.block ∧ a.block < wc.heap.size) (h3 : an = none → y.b = [] ∧ cn = 0) (h4 : Wrb wc an y.b.length cn) (hob : (wc.alloc o).ownsRow w1.heap.size 45 4 (.slice ao j cap) j XS)
    (ho : w2.ownsRow w1.heap.size 45 4 (.slice (some ⟨g2, 0, none⟩) (j + 1) cap2) (j + 1) (XS ++ [.int .i64 y.d, .int .i64 y.r, .int .i64 y.s, .slice an y.b.length cn])) (hg : (wc.alloc o).grownBy w2 (Value.slice ao j cap).ownBlock) (hw : (Value.slice ao j cap).ownBlock = some g2 ∨ g2 = wc.heap.size + 1) :
    Pus w2 w1.heap.size (some ⟨g2, 0, none⟩) (j + 1) cap2 D (upd j an B) (upd j cn K) ∧ Below w1.heap.size w1 w2 := by
  subst hy
  have s1 := hbw.size
  have s2 := hbb.size
  have hz : wc.heap.size + 1 ≤ w2.heap.size := by have := hg.size; simp at this; omega
  refine ⟨pus_step hX s1 hp hbb h1 h2 h3 h4 ho (fun x hx hne => (hg.block x (by simp; omega) (fun e => by cases ao with | none => cases e | some a => cases e; exact hne _ rfl rfl)).trans (Below.heap_alloc _ _ _ hx)) ?_ hz, ((below_then hbw hbb).alloc (by omega) _).grown hg (by simp; omega) (fun r hr => (hob.lt r hr).1)⟩
  rcases hw with e | e
  · cases ao with
    | none => cases e
    | some a => exact .inl ⟨a, rfl, Option.some.inj e⟩
  · exact .inr e
theorem cases_a (a : Int) : a = 0 ∨ a = 1 ∨ a = 2 ∨ a = 3 ∨ a = 4 ∨ a = 5 ∨ a = 6 ∨ (a ≠ 0 ∧ a ≠ 1 ∧ a ≠ 2 ∧ a ≠ 3 ∧ a ≠ 4 ∧ a ≠ 5 ∧ a ≠ 6) := by omega
set_option maxHeartbeats 8000000 in
set_option maxRecDepth 100000 in
theorem script_walk (W : World) (k r c q : Int) (lo : Option Addr) (mn cl : Nat) (A : Nat → Option Addr) (C : Nat → Nat) (F : Nat → List UInt8) (hl : Lst W lo mn A C F) (hmn : mn * 24 ≤ 140737488351232) (hF : ∀ i, i < mn → (F i).length ≤ 9223372036854775807) (so : Option Addr) (n sc : Nat) (X : Nat → Sp) (hs : Sps W so n X) (hn : n ≤ 9223372036854775807) (D : Nat → Nat → Pt) (B : Nat → Nat → Option Addr) (K : Nat → Nat → Nat) (hp : ∀ i, i < n → Pts W (fun b => b < W.heap.size) (X i).po (X i).m (D i) (B i) (K i)) (hm : ∀ i, i < n → (X i).m * 48 ≤ 140737488351232) (hb : ∀ i, i < n → ∀ j, j < (X i).m → (D i j).b.length ≤ 9223372036854775807) (hz : ∀ i, i < n → (X i).n ≤ 9223372036854775807) :
    Calls Try.prog 3 #[.agg #[.int .i64 k, .int .i64 r, .int .i64 c, .int .i64 q, .slice lo mn cl], .slice so n sc] W fun e w' => e = .returned (.bool true) ∧ Below W.heap.size W w' := by
  have HL : Hid (Lst W lo mn A C F) := hl
  have HFL : Hid (∀ i, i < mn → (F i).length ≤ 9223372036854775807) := hF
  have HS : Hid (Sps W so n X) := hs
  have HPP : Hid (∀ i, i < n → Pts W (fun b => b < W.heap.size) (X i).po (X i).m (D i) (B i) (K i)) := hp
  have HMM : Hid (∀ i, i < n → (X i).m * 48 ≤ 140737488351232) := hm
  have HBB : Hid (∀ i, i < n → ∀ j, j < (X i).m → (D i j).b.length ≤ 9223372036854775807) := hb
  have HZZ : Hid (∀ i, i < n → (X i).n ≤ 9223372036854775807) := hz
  have HMN : Hid (mn * 24 ≤ 140737488351232) := hmn
  obtain ⟨w0, hw0⟩ : ∃ w0, w0 = W.alloc (.cells #[.int .i64 k, .int .i64 r, .int .i64 c, .int .i64 q, .slice lo mn cl] 26) := ⟨_, rfl⟩
  have b0 : Below W.heap.size W w0 := by rw [hw0]; exact below_alloc _ _
  have SH : Hid (∀ v, Below w0.heap.size w0 v → v.cell? ⟨W.heap.size, 0, none⟩ = some (.int .i64 k) ∧ v.cell? ⟨W.heap.size, 1, none⟩ = some (.int .i64 r) ∧ v.cell? ⟨W.heap.size, 2, none⟩ = some (.int .i64 c) ∧ v.cell? ⟨W.heap.size, 3, none⟩ = some (.int .i64 q) ∧ v.cell? ⟨W.heap.size, 4, none⟩ = some (.slice lo mn cl)) := fun v hv => img_held hw0 hv
  have HB0 : Hid (Below W.heap.size W w0) := b0
  clear hl hF hs hp hm hb hz hmn b0
  obtain ⟨i0, hinf, hz0, hz1, hz2⟩ := info_parts info45
  go_enter Try.func3, Try.ntmps3
  go_wp2_with fail
  rw [← hw0]
  clear hw0
  refine (awake_any w0).mono ?_
  rintro e wa ⟨rfl, ha⟩
  have HA : Hid (Below w0.heap.size w0 wa) := ha
  obtain ⟨q0, q1, q2, q3, q4⟩ := SH.out _ HA.out
  clear ha
  go_wp2_with fail
  refine (big_any k r c q wa).mono ?_
  rintro e wb ⟨⟨bb, rfl⟩, hb⟩
  have HB : Hid (Below w0.heap.size w0 wb) := below_then HA.out hb
  clear hb q0 q1 q2 q3 q4 HA
  obtain ⟨q0, q1, q2, q3, q4⟩ := SH.out _ HB.out
  cases bb
  case true =>
    go_wp2_with fail
    go_ret
    exact ⟨rfl, below_then HB0.out HB.out⟩
  go_wp2_with fail
  refine (long_any wb so n sc X (HS.out.below (below_then HB0.out HB.out)) hn).mono ?_
  rintro e w' ⟨⟨bl, rfl⟩, hw'⟩
  obtain rfl := hw'.symm
  clear hw'
  cases bl
  case true =>
    go_wp2_with fail
    go_ret
    exact ⟨rfl, below_then HB0.out HB.out⟩
  go_wp2_with fail
  refine (Twin_any k r c q wb lo mn cl A C F (HL.out.below (below_then HB0.out HB.out)) HMN.out HFL.out).mono ?_
  rintro e wc ⟨lo', cl', A', C', rfl, tw1, tw2, tw3⟩
  have HT1 : Hid (wc.ownsRow (wb.heap.size + 3) 43 1 (.slice lo' mn cl') mn (svs A' C' F mn)) := tw1
  have HT2 : Hid (Sls wc (wb.heap.size + 3) lo' mn A' C' F) := tw2
  have HBC : Hid (Below wb.heap.size wb wc) := tw3
  clear tw1 tw2 tw3 q0 q1 q2 q3 q4
  obtain ⟨w6, hw6⟩ : ∃ w6, w6 = wc.alloc (.cells #[.int .i64 k, .int .i64 r, .int .i64 c, .int .i64 q, .slice lo' mn cl'] 26) := ⟨_, rfl⟩
  have HB6 : Hid (Below wc.heap.size wc w6) := by rw [hw6]; exact below_alloc _ _
  have SG : Hid (∀ v, Below w6.heap.size w6 v → v.cell? ⟨wc.heap.size, 0, none⟩ = some (.int .i64 k) ∧ v.cell? ⟨wc.heap.size, 1, none⟩ = some (.int .i64 r) ∧ v.cell? ⟨wc.heap.size, 2, none⟩ = some (.int .i64 c) ∧ v.cell? ⟨wc.heap.size, 3, none⟩ = some (.int .i64 q) ∧ v.cell? ⟨wc.heap.size, 4, none⟩ = some (.slice lo' mn cl')) := fun v hv => img_held hw6 hv
  obtain ⟨p0, p1, p2, p3, p4⟩ := img_new hw6
  rw [hw6] at p0 p1 p2 p3 p4
  have HTL : Hid (Lst w6 lo' mn A' C' F) := (twin_lst HT1.out HT2.out).below HB6.out
  have HB06 : Hid (Below w0.heap.size w0 w6) := below_then HB.out (below_then HBC.out HB6.out)
  go_wp2_with fail
  rw [← hw6]
  clear p0 p1 p2 p3 p4 hw6
  obtain ⟨x, hx⟩ := eri_any k r c q mn F
  by_cases hx0 : x = 0
  case neg =>
    have e1 : (x != 0) = true := by simp; exact hx0
    have e2 : (x != x) = false := by simp
    have e3 : (x == x) = true := by simp
    have HX0 : Hid (¬ x = 0) := hx0
    have HRC : Hid (∀ w, Lst w lo mn A C F → Calls Try.prog 13 #[.agg #[.int .i64 k, .int .i64 r, .int .i64 c, .int .i64 q, .slice lo mn cl]] w fun e w' => e = .returned (.int .i64 x) ∧ Below w.heap.size w w') := fun w hw => by
      rcases hx with ⟨hm, rfl⟩ | ⟨hm, ho, rfl⟩ | ⟨hm, ho, rfl⟩
      · exact RCheck_bad k r c q hm lo mn cl w
      · exact absurd rfl hx0
      · obtain ⟨N, Q, S, hp⟩ := pm_of hm
        exact RCheck_any hp lo mn cl A C F w hw (by have := HMN.out; omega) 90 (.inr ⟨fun hh => ho ((okm_pm hp).2 hh), rfl⟩)
    have HOB := fun hl => Of_bad lo' mn cl' A' C' F x hx hx0 w6 hl
    clear hx hx0
    refine (HOB HTL.out).mono ?_
    rintro e wd ⟨rfl, hd⟩
    have HBD : Hid (Below w0.heap.size w0 wd) := below_then HB06.out hd
    obtain ⟨q0, q1, q2, q3, q4⟩ := SH.out _ HBD.out
    clear hd HOB
    go_wp2_with fail
    refine (HRC.out _ (HL.out.below (below_then HB0.out HBD.out))).mono ?_
    rintro e we ⟨rfl, he⟩
    have HBE : Hid (Below w0.heap.size w0 we) := below_then HBD.out he
    clear he
    go_wp2_with fail
    go_ret
    exact ⟨rfl, below_then HB0.out HBE.out⟩
  subst hx0
  obtain ⟨N, Q, S, hQ, hN, hpm, hfit⟩ := bad_zero hx
  have HP : Hid (Pm k r c Q N Q S) := hpm
  have HFT : Hid (Fit (N * Q * 2) S F) := hfit
  have HN : Hid (mn = N * Q * 2) := hN
  have HRC : Hid (∀ w, Lst w lo mn A C F → Calls Try.prog 13 #[.agg #[.int .i64 k, .int .i64 r, .int .i64 c, .int .i64 q, .slice lo mn cl]] w fun e w' => e = .returned (.int .i64 0) ∧ Below w.heap.size w w') := fun w hw => by
    rw [hQ]
    exact RCheck_any hpm lo mn cl A C F w hw (by have := HMN.out; omega) 0 (.inl ⟨⟨hN, by rw [hN]; exact hfit⟩, rfl⟩)
  subst hQ
  have HOK := fun hl => Of_ok HP.out lo' cl' A' C' F HFT.out w6 hl
  rw [← HN.out] at HOK
  have hsm : 0 < mn ∧ mn ≤ 8192 := by have := HP.out.bounds; have := HN.out; omega
  clear hx hpm hfit hN
  refine (HOK HTL.out).mono ?_
  rintro e wd ⟨g, rfl, hdk, hd⟩
  have HDK : Hid (Dk wd (fun b => w6.heap.size ≤ b ∧ b < wd.heap.size) g k r c N Q S (newSt F)) := hdk
  have HB6D : Hid (Below w6.heap.size w6 wd) := hd
  have HBD : Hid (Below w0.heap.size w0 wd) := below_then HB06.out hd
  clear hdk hd HOK
  obtain ⟨q0, q1, q2, q3, q4⟩ := SH.out _ HBD.out
  go_wp2_with fail
  refine (HRC.out _ (HL.out.below (below_then HB0.out HBD.out))).mono ?_
  rintro e we ⟨rfl, he⟩
  have HBDE : Hid (Below wd.heap.size wd we) := he
  have HBE : Hid (Below w0.heap.size w0 we) := below_then HBD.out he
  clear he q0 q1 q2 q3 q4 HRC
  obtain ⟨q0, q1, q2, q3, q4⟩ := SH.out _ HBE.out
  go_wp2_with fail
  have HRO := fun hl => ROf_any HP.out lo cl A C F HFT.out we hl
  rw [← HN.out] at HRO
  refine (HRO (HL.out.below (below_then HB0.out HBE.out))).mono ?_
  rintro e wf ⟨h, rfl, hrk, hf⟩
  have HRK : Hid (Rk wf (fun b => we.heap.size ≤ b ∧ b < wf.heap.size) h k r c N Q S (newSt F)) := hrk
  have HBEF : Hid (Below we.heap.size we wf) := hf
  have HB6F : Hid (Below w6.heap.size w6 wf) := below_then HB6D.out (below_then HBDE.out hf)
  clear hrk hf HRO q0 q1 q2 q3 q4
  obtain ⟨q0, q1, q2, q3, q4⟩ := SG.out _ HB6F.out
  obtain ⟨l, rfl, _, hrs⟩ := twin_rsl HT1.out HT2.out hsm.1
  have HSPL : Hid (Spl wf (fun b => wb.heap.size + 3 ≤ b ∧ b < wc.heap.size) l mn A' (fun i => (F i).length) C') := by
    have hcf : Below wc.heap.size wc wf := below_then HB6.out HB6F.out
    refine ⟨fun i hi => held (hrs.cell i hi) hcf, fun i hi => (World.frozen?_of_block (hcf.block l (World.block_lt_of_cell? wc _ (hrs.cell i hi)))).trans (hrs.free i hi), hrs.own, fun b hb => by have := hcf.size; have h2 : b < wc.heap.size := hb.2; omega, fun i hi => ?_, fun i hi => ?_⟩
    · have h1 := HFT.out i (by rw [← HN.out]; exact hi)
      have h2 := HP.out.bounds
      show (F i).length ≤ 1000
      omega
    · obtain ⟨_, r2, r3, r4⟩ := HT2.out i hi
      rcases r4 with r4 | ⟨g', e', hg', hc'⟩
      · exact .inl r4
      · refine .inr ⟨g', e', ⟨(r2 _ e').1, hg'⟩, (r2 _ e').2.2 _ rfl, fun j hj => ?_⟩
        have hbl := hcf.block g' hg'
        rw [World.cell?_of_block (a := ⟨g', j, none⟩) hbl, World.frozen?_of_block (a := ⟨g', j, none⟩) hbl]
        exact hc' j hj
  clear hrs
  go_wp2_with fail
  refine (spoil_any k r c Q wf _ l mn cl' A' (fun i => (F i).length) C' HSPL.out (by omega)).mono ?_
  rintro e wh ⟨rfl, hso⟩
  have HJ0 : Hid (Jt W wh (fun _ => False) g h k r c N Q S (newSt F) (newSt F)∧ Gn N (newSt F)) := by
    have s1 := HB0.out.size
    have s2 := HB.out.size
    have s3 := HBC.out.size
    have s4 := HB6.out.size
    have s5 := HB6D.out.size
    have s6 := HBDE.out.size
    have s7 := HBEF.out.size
    refine ⟨⟨_, _, (HDK.out.below (below_then HBDE.out HBEF.out)).only hso (fun b hb hx => by have h1 : w6.heap.size ≤ b := hb.1; have h2 : b < wc.heap.size := hx.2; omega), HRK.out.only hso (fun b hb hx => by have h1 : we.heap.size ≤ b := hb.1; have h2 : b < wc.heap.size := hx.2; omega), fun b hb hc => ?_, fun b hb => ?_, fun b hb => ?_, fun b hb => hb.elim, ?_⟩, fun i _ => rfl⟩
    · have h1 : b < wd.heap.size := hb.2
      have h2 : we.heap.size ≤ b := hc.1
      omega
    · have h1 : w6.heap.size ≤ b := hb.1
      omega
    · have h1 : we.heap.size ≤ b := hb.1
      omega
    · exact (below_then HB0.out (below_then HB06.out HB6F.out)).trans (hso.below (fun b hb => by have h1 : wb.heap.size + 3 ≤ b := hb.1; omega) (by omega))
  clear hso HSPL HDK HRK HT1 HT2 HTL q0 q1 q2 q3 q4 SG SH HL HFL HFT HN HB6F HBEF HBDE HBE HBD HB6D HB06 HB6 HBC HB HB0 HMN hsm
  go_wp2_with fail
  go_loopw [11, 12, 13, 14, 15, 16, 17, 18, 19, 20, 21, 22, 23, 24, 25, 26] (fun x _ _ _ _ _ _ _ _ _ _ _ _ _ _ _ wr => ∃ (i : Nat) (s : St), i ≤ n ∧ x = .int .i64 i ∧ Hid (Jt W wr (fun _ => False) g h k r c N Q S s s ∧ Gn N s)) (fun x _ _ _ _ _ _ _ _ _ _ _ _ _ _ _ _ => n - (intOf x).toNat)
  case atStart => exact ⟨0, newSt F, Nat.zero_le _, rfl, HJ0.out⟩
  case round =>
    obtain ⟨i, s, hi, rfl, hrel⟩ := hrel
    have HJ : Hid (Jt W wr (fun _ => False) g h k r c N Q S s s) := hrel.out.1
    have HG : Hid (Gn N s) := hrel.out.2
    clear hrel HJ0
    by_cases hlt : i < n
    · obtain ⟨sb, off, rfl, hc⟩ := (HS.out.below HJ.out.bel).at_ (by omega)
      obtain ⟨k0, k1, k2, k3, k4, k5⟩ := hc i hlt
      obtain ⟨a, d, o, u, z, po, m, pc, hX⟩ : ∃ a d o u z po m pc, X i = ⟨a, d, o, u, z, po, m, pc⟩ := ⟨_, _, _, _, _, _, _, _, rfl⟩
      have HPI : Hid (Pts W (fun b => b < W.heap.size) po m (D i) (B i) (K i)) := by have h := HPP.out i hlt; rw [hX] at h; exact h
      have hmi : m * 48 ≤ 140737488351232 := by have h := HMM.out i hlt; rw [hX] at h; exact h
      have HBI : Hid (∀ j, j < m → (D i j).b.length ≤ 9223372036854775807) := by have h := HBB.out i hlt; rw [hX] at h; exact h
      have hzi : z ≤ 9223372036854775807 := by have h := HZZ.out i hlt; rw [hX] at h; exact h
      rw [hX] at k0 k1 k2 k3 k4 k5
      dsimp only at k0 k1 k2 k3 k4 k5
      have i1 : (0 : Int) ≤ (i : Int) := by omega
      have i2 : (i : Int) < (n : Int) := by omega
      clear hc hX
      obtain ⟨w1, hw1⟩ : ∃ w1, w1 = wr.alloc (.cells #[.int .u8 a, .int .i64 d, .int .i64 o, .int .i64 u, .int .i64 z, .slice po m pc] 42) := ⟨_, rfl⟩
      have HB1 : Hid (Below wr.heap.size wr w1) := by rw [hw1]; exact below_alloc _ _
      obtain ⟨f0, f1, f2, f3, f4, f5⟩ := stp_new wr a d o u z (.slice po m pc)
      have HS1 : Hid (w1.heap.size = wr.heap.size + 1) := by show _ = _; rw [hw1]; simp
      have HJ1 : Hid (Jt W w1 (fun _ => False) g h k r c N Q S s s) := HJ.out.below HB1.out
      rcases cases_a a with rfl | rfl | rfl | rfl | rfl | rfl | rfl | ⟨a0, a1, a2, a3, a4, a5, a6⟩
      · obtain ⟨wm, rfl⟩ : ∃ x, x = wr := ⟨wr, rfl⟩
        go_wp2_with fail
        rw [← hw1] at f0 f1 f2 f3 f4 f5 ⊢
        clear hw1
        go_loopw [15, 16, 17] (fun v x _ wr => ∃ (j : Nat) (ao : Option Addr) (cap : Nat) (B' : Nat → Option Addr) (K' : Nat → Nat), j ≤ m ∧ x = .int .i64 j ∧ v = .slice ao j cap ∧ Hid (Pus wr w1.heap.size ao j cap (D i) B' K' ∧ Below w1.heap.size w1 wr)) (fun _ x _ _ => m - (intOf x).toNat)
        case atStart => exact ⟨0, none, 0, fun _ => none, fun _ => 0, Nat.zero_le _, rfl, rfl, pus_nil _ _ _ _ _, Below.refl _ _⟩
        case round =>
          obtain ⟨j, ao, cap, B', K', hj, rfl, rfl, hin⟩ := hrel
          have HPU : Hid (Pus wr w1.heap.size ao j cap (D i) B' K') := hin.out.1
          have HBW : Hid (Below w1.heap.size w1 wr) := hin.out.2
          have hsw := hin.out.2.size
          clear hin
          have g5 : wr.cell? ⟨wm.heap.size, 5, none⟩ = some (.slice po m pc) := held f5 HBW.out
          clear f0 f1 f2 f3 f4 f5
          by_cases hjm : j < m
          · have HPR : Hid (Pts wr (fun b => b < W.heap.size) po m (D i) (B i) (K i)) := HPI.out.below (below_then HJ1.out.bel HBW.out)
            obtain ⟨pb, poff, rfl, hpc⟩ := HPR.out.at_ (by omega)
            obtain ⟨t0, t1, t2, t3⟩ := hpc j hjm
            obtain ⟨y, hy⟩ : ∃ y, y = D i j := ⟨_, rfl⟩
            rw [← hy] at t0 t1 t2 t3
            have HRY : Hid (RdB wr (B i j) y.b) := by rw [hy]; exact HPR.out.rd j hjm
            have hyl : y.b.length ≤ 9223372036854775807 := by rw [hy]; exact HBI.out j hjm
            have HY : Hid (y = D i j) := hy
            have j1 : (0 : Int) ≤ (j : Int) := by omega
            have j2 : (j : Int) < (m : Int) := by omega
            clear hy hpc HPR
            obtain ⟨wa, hwa⟩ : ∃ wa, wa = wr.alloc (.cells #[.int .i64 y.d, .int .i64 y.r, .int .i64 y.s, .slice (B i j) y.b.length (K i j)] 45) := ⟨_, rfl⟩
            have HBA : Hid (Below wr.heap.size wr wa) := by rw [hwa]; exact below_alloc _ _
            have hsa : wa.heap.size = wr.heap.size + 1 := by rw [hwa]; simp
            obtain ⟨u0, u1, u2, u3⟩ := pt_new wr y.d y.r y.s (.slice (B i j) y.b.length (K i j))
            have HUF : Hid (∀ v, Below wa.heap.size wa v → v.frozen? ⟨wr.heap.size, 3, none⟩ = false) := fun v hv => blk_free hwa hv 3
            go_wp2_with fail
            rw [← hwa] at u0 u1 u2 u3 ⊢
            clear hwa
            refine (Bytes_any wa (B i j) y.b.length (K i j) y.b (HRY.out.below HBA.out) rfl hyl).mono ?_
            rintro e wb ⟨an, cn, rfl, hb1, hb2, hb3, hb4, hb5⟩
            have x0 := held u0 hb5
            have x1 := held u1 hb5
            have x2 := held u2 hb5
            have x3 := held u3 hb5
            have xf := HUF.out wb hb5
            obtain ⟨wc, hwc⟩ : ∃ wc, wc = wb.setCell ⟨wr.heap.size, 3, none⟩ (.slice an y.b.length cn) := ⟨_, rfl⟩
            have hsb := hb5.size
            have hsc : wc.heap.size = wb.heap.size := by rw [hwc]; simp [World.setCell]
            have hst : ∀ x, x ≠ wr.heap.size → wc.heap[x]? = wb.heap[x]? := fun x hx => by rw [hwc]; exact Below.heap_setCell _ _ _ _ hx
            have HBC : Hid (Below wr.heap.size wr wc) := by rw [hwc]; exact (below_then HBA.out hb5).setCell (Nat.le_refl _) _
            have HR1 : Hid (RdB wc an y.b) := rdb_stay hb1 (fun a ha => hst _ (by have := hb2 a ha; omega))
            have HR2 : Hid (∀ a, an = some a → wr.heap.size ≤ a.block ∧ a.block < wc.heap.size) := fun a ha => by have := hb2 a ha; omega
            have HR3 : Hid (an = none → y.b = [] ∧ cn = 0) := hb3
            have HR4 : Hid (Wrb wc an y.b.length cn) := wrb_stay hb4 (fun a ha => hst _ (by have := hb2 a ha; omega)) (by omega)
            obtain ⟨XS, hXS⟩ : ∃ XS, XS = ptv (D i) B' K' j := ⟨_, rfl⟩
            have HXS : Hid (XS = ptv (D i) B' K' j) := hXS
            have HOB : Hid (∀ o, (wc.alloc o).ownsRow w1.heap.size 45 4 (.slice ao j cap) j XS) := fun o => by
              rw [hXS]
              exact (owns_stay HPU.out.1 (fun g' _ hl => HBC.out.block g' hl)).alloc o
            have hscz : w1.heap.size ≤ wc.heap.size := by omega
            have HSE : Hid (wc.heap.size = wb.heap.size) := hsc
            have HNW : Hid (∀ j' u', ([.int .i64 y.d, .int .i64 y.r, .int .i64 y.s, .slice an y.b.length cn] : List Value)[j']? = some u' → (wc.alloc (.cells #[.int .i64 y.d, .int .i64 y.r, .int .i64 y.s, .slice an y.b.length cn] 45)).cell? ((⟨wb.heap.size, 0, none⟩ : Addr).add j') = some u') := by rw [← hsc]; exact World.news_of_block (heap_alloc_new wc _)
            clear u0 u1 u2 u3 hb1 hb2 hb3 hb4 hb5 hXS hst HUF HRY HBA hsb hsa hsc
            go_wp2_with (at_builtin; rw [← hwc]; clear hwc; refine wpList_append_lies _ (by rfl) (.tmp 94) (.tmp 96) 40 (by rfl) w1.heap.size 45 i0 (.agg #[.int .i64 0, .int .i64 0, .int .i64 0, .slice none 0 0]) 4 48 Try.underlying40 hinf hz0 hz1 hz2 (by rfl) (by decide) (.slice ao j cap) j XS (by rfl) (HOB.out _) ⟨wb.heap.size, 0, none⟩ 1 1 [.int .i64 y.d, .int .i64 y.r, .int .i64 y.s, .slice an y.b.length cn] (by first | rfl | simp [Act.eval, HSE.out]) (by rfl) HNW.out (by simp [Value.oneCell']) (by decide) (by unfold maxLen; omega) (by omega) (by simp; omega) (wc.heap.size + 1) (by simp) ?_; intro g2 cap2 w2 hown2 hgrow2 hwh2 _; have HST : Hid (Pus w2 w1.heap.size (some ⟨g2, 0, none⟩) (j + 1) cap2 (D i) (upd j an B') (upd j cn K') ∧ Below w1.heap.size w1 w2) := pus_grown HY.out HXS.out HPU.out HBW.out HBC.out HR1.out HR2.out HR3.out HR4.out (HOB.out _) hown2 hgrow2 hwh2; clear hown2 hgrow2 hwh2)
            go_roundw
            case rel => exact ⟨j + 1, some ⟨g2, 0, none⟩, cap2, upd j an B', upd j cn K', by omega, by go_num, rfl, HST.out⟩
            case measure => simp [intOf]; omega
          · obtain rfl : j = m := by omega
            obtain ⟨w5, rfl⟩ : ∃ x, x = wr := ⟨wr, rfl⟩
            have HJ5 : Hid (Jt W w5 (fun b => wm.heap.size ≤ b ∧ b < w5.heap.size) g h k r c N Q S s s) := HJ.out.fresh (below_then HB1.out HBW.out)
            have HPW : Hid (Pw w5 (fun b => wm.heap.size ≤ b ∧ b < w5.heap.size) ao j B' (fun t => (D i t).b.length) K') := (pw_pus HPU.out).mono (fun b hb => ⟨by have := HS1.out; have h1 := hb.1; show wm.heap.size ≤ b; omega, hb.2⟩)
            obtain ⟨ε, sw, hW⟩ : ∃ ε sw, wrs N Q S s (pl (D i) 0 j) = (ε, sw) := ⟨_, _, rfl⟩
            have en : (ε != ε) = false := by simp
            have hj63 : j ≤ 9223372036854775807 := by omega
            have HGW : Hid (Gn N sw) := by have h' := gn_wrs (Q := Q) (S := S) HG.out (pl (D i) 0 j); rw [hW] at h'; exact h'
            have HC1 : Hid (Calls Try.prog 17 #[.pointer (some ⟨g, 0, none⟩), .slice ao j cap] w5 fun e w' => e = .returned (.int .i64 ε) ∧ Jt W w' (fun b => wm.heap.size ≤ b ∧ b < w5.heap.size) g h k r c N Q S sw s ∧ Fp W (fun b => wm.heap.size ≤ b ∧ b < w5.heap.size) w5 w') := by
              have h' := jt_write HJ5.out ao j cap (D i) B' K' hj63 (pus_pts HPU.out) (fun b hb => ⟨hb.2, .inr ⟨by have := HS1.out; have h1 := hb.1; show wm.heap.size ≤ b; omega, hb.2⟩⟩)
              rw [hW] at h'; exact h'
            have HC2 : Hid (∀ w6, Jt W w6 (fun b => wm.heap.size ≤ b ∧ b < w5.heap.size) g h k r c N Q S sw s → Calls Try.prog 18 #[.pointer (some ⟨h, 0, none⟩), .slice po j pc] w6 fun e w' => e = .returned (.int .i64 ε) ∧ Jt W w' (fun b => wm.heap.size ≤ b ∧ b < w5.heap.size) g h k r c N Q S sw sw ∧ Fp W (fun b => wm.heap.size ≤ b ∧ b < w5.heap.size) w6 w') := fun w6 h6 => by
              have h' := jt_all h6 po j pc (D i) (B i) (K i) hj63 HBI.out (HPI.out.below h6.bel) (fun b hb => ⟨Nat.lt_of_lt_of_le hb h6.bel.size, .inl hb⟩)
              rw [hW] at h'; exact h'
            have HIN : Hid (wm.heap.size < w5.heap.size) := by have := HS1.out; show _ < _; omega
            clear hW HPU HBW HJ5
            go_wp2_with fail
            refine HC1.out.mono ?_
            rintro e w6 ⟨rfl, hj6, ho6⟩
            have HJ6 : Hid (Jt W w6 (fun b => wm.heap.size ≤ b ∧ b < w5.heap.size) g h k r c N Q S sw s) := hj6
            have g6 := ho6.cell g5 (fun hh => hh.2 ⟨Nat.le_refl _, HIN.out⟩)
            have HPW6 : Hid (Pw w6 (fun b => wm.heap.size ≤ b ∧ b < w5.heap.size) ao j B' (fun t => (D i t).b.length) K') := HPW.out.only ho6 (fun b hp hh => hh.2 hp)
            clear hj6 ho6 g5 HC1 HPW
            go_wp2_with fail
            refine (HC2.out w6 HJ6.out).mono ?_
            rintro e w7 ⟨rfl, hj7, ho7⟩
            have HJ7 : Hid (Jt W w7 (fun b => wm.heap.size ≤ b ∧ b < w5.heap.size) g h k r c N Q S sw sw ∧ Pw w7 (fun b => wm.heap.size ≤ b ∧ b < w5.heap.size) ao j B' (fun t => (D i t).b.length) K') := ⟨hj7, HPW6.out.only ho7 (fun b hp hh => hh.2 hp)⟩
            obtain ⟨L, hL⟩ : ∃ L : Nat → Nat, L = (fun t => (D i t).b.length) := ⟨_, rfl⟩
            have HLB : Hid (∀ t, t < j → L t ≤ 9223372036854775807) := by rw [hL]; exact HBI.out
            rw [← hL] at HJ7
            clear hj7 ho7 g6 HC2 HPW6 HJ6 hL
            go_wp2_with fail
            go_loopw [18, 19] (fun x _ wr => ∃ a : Nat, a ≤ j ∧ x = .int .i64 a ∧ Hid (Jt W wr (fun b => wm.heap.size ≤ b ∧ b < w5.heap.size) g h k r c N Q S sw sw ∧ Pw wr (fun b => wm.heap.size ≤ b ∧ b < w5.heap.size) ao j B' L K')) (fun x _ _ => j - (intOf x).toNat)
            case atStart => exact ⟨0, Nat.zero_le _, rfl, HJ7.out⟩
            case round =>
              obtain ⟨a, ha, rfl, hin⟩ := hrel
              by_cases haj : a < j
              · obtain ⟨l, rfl, hpl, hcs⟩ := hin.out.2 (by omega)
                clear hcs
                have a1 : (0 : Int) ≤ (a : Int) := by omega
                have a2 : (a : Int) < (j : Int) := by omega
                have hLa := HLB.out a haj
                have HNL : Hid (∀ wx, Pw wx (fun b => wm.heap.size ≤ b ∧ b < w5.heap.size) (some ⟨l, 0, none⟩) j B' L K' → wx.cell? ⟨l, a * 4 + 3, none⟩ = some (.slice (B' a) (L a) (K' a)) ∧ Wp wx (fun b => (wm.heap.size ≤ b ∧ b < w5.heap.size) ∧ b ≠ l) (B' a) (L a)) := fun wx hx => by
                  obtain ⟨l2, e2, _, hc2⟩ := hx (by omega)
                  cases e2
                  exact hc2 a haj
                obtain ⟨La, hLL⟩ : ∃ La, La = L a := ⟨_, rfl⟩
                rw [← hLL] at hLa HNL
                clear hLL hpl
                obtain ⟨wn, rfl⟩ : ∃ x, x = wr := ⟨wr, rfl⟩
                go_wp2_with fail
                go_loopw [19] (fun x wr => ∃ t : Nat, t ≤ La ∧ x = .int .i64 t ∧ Hid (Jt W wr (fun b => wm.heap.size ≤ b ∧ b < w5.heap.size) g h k r c N Q S sw sw ∧ Pw wr (fun b => wm.heap.size ≤ b ∧ b < w5.heap.size) (some ⟨l, 0, none⟩) j B' L K')) (fun x _ => La - (intOf x).toNat)
                case atStart => exact ⟨0, Nat.zero_le _, rfl, hin.out⟩
                case round =>
                  obtain ⟨t, ht, rfl, hin2⟩ := hrel
                  obtain ⟨c3, hwp⟩ := HNL.out wr hin2.out.2
                  by_cases htl : t < La
                  · obtain ⟨gb, eb, hpg, hcell⟩ : ∃ g', B' a = some ⟨g', 0, none⟩ ∧ ((wm.heap.size ≤ g' ∧ g' < w5.heap.size) ∧ g' ≠ l) ∧ ∀ j, j < La → (wr.cell? ⟨g', j, none⟩).isSome = true ∧ wr.frozen? ⟨g', j, none⟩ = false := by
                      rcases hwp with q | q
                      · omega
                      · exact q
                    rw [eb] at c3
                    obtain ⟨q1, q2⟩ := hcell t htl
                    obtain ⟨vv, hvv⟩ := Option.isSome_iff_exists.1 q1
                    have t1 : (0 : Int) ≤ (t : Int) := by omega
                    have t2 : (t : Int) < (La : Int) := by omega
                    have HPG : Hid ((wm.heap.size ≤ gb ∧ gb < w5.heap.size) ∧ gb ≠ l) := hpg
                    clear hcell q1 hpg hwp eb
                    go_wp2_with fail
                    go_roundw
                    case rel => exact ⟨t + 1, by omega, by go_num, hin2.out.1.touch (Only.setCell (X := (fun b => wm.heap.size ≤ b ∧ b < w5.heap.size)) (p := ⟨gb, t, none⟩) (Only.refl _ _) HPG.out.1 _), hin2.out.2.set rfl ⟨gb, t, none⟩ HPG.out.2 _⟩
                    case measure => simp [intOf]; omega
                  · obtain rfl : t = La := by omega
                    clear hwp
                    go_wp2_with fail
                    go_roundw
                    case rel => exact ⟨a + 1, by omega, by go_num, hin2.out⟩
                    case measure => simp [intOf]; omega
              · obtain rfl : a = j := by omega
                have HJ9 : Hid (Jt W wr (fun b => wm.heap.size ≤ b ∧ b < w5.heap.size) g h k r c N Q S sw sw) := hin.out.1
                clear hin
                go_wp2_with fail
                refine (jt_same HJ9.out HGW.out).mono ?_
                rintro e wz ⟨rfl, hjz⟩
                have HJZ : Hid (Jt W wz (fun _ => False) g h k r c N Q S sw sw) := hjz.any
                have HGZ : Hid (Gn N sw) := HGW.out
                clear hjz
                go_wp2_with fail
                go_roundw
                case rel => exact ⟨i + 1, sw, by omega, by go_num, HJZ.out, HGZ.out⟩
                case measure => simp [intOf]; omega
      · go_wp2_with fail
        rw [← hw1] at f0 f1 f2 f3 f4 f5 ⊢
        clear hw1
        obtain ⟨rb, hrb⟩ : ∃ rb, rb = rdB N Q s d o u := ⟨_, rfl⟩
        obtain ⟨ε, hε⟩ : ∃ ε, ε = rdErr N Q s d o u := ⟨_, rfl⟩
        have HC1 := jt_read HJ1.out d o u
        have HC2 : Hid (∀ w2 P, Jt W w2 P g h k r c N Q S s s → Calls Try.prog 20 #[.pointer (some ⟨h, 0, none⟩), .int .i64 d, .int .i64 o, .int .i64 u] w2 fun e w' => ∃ ao cap, e = .returned (.tuple #[.slice ao rb.length cap, .int .i64 ε]) ∧ RdB w' ao rb ∧ Below w2.heap.size w2 w') := fun w2 P h2 => by rw [hrb, hε]; exact jt_rread h2 d o u
        rw [← hrb, ← hε] at HC1
        have en : (ε != ε) = false := by simp
        clear hrb hε
        refine HC1.mono ?_
        clear HC1
        rintro e w2 ⟨ao, cap, rfl, hown, hb2⟩
        have HOW : Hid (OwB w1.heap.size w2 ao cap rb) := hown
        have HJ2 : Hid (Jt W w2 (fun b => w1.heap.size ≤ b ∧ b < w2.heap.size) g h k r c N Q S s s) := HJ1.out.fresh hb2
        have m1 := held f1 hb2
        have m2 := held f2 hb2
        have m3 := held f3 hb2
        have hrl := hown.len
        clear f0 f1 f2 f3 f4 f5 hown hb2
        go_wp2_with fail
        refine (HC2.out w2 _ HJ2.out).mono ?_
        rintro e w3 ⟨ao3, cap3, rfl, hrd, hb3⟩
        have v1 : (convert 43 9 (.slice ao rb.length cap)).run Try.prog w3 = .ok (.string (sOf rb)) w3 := conv_any (HOW.out.rd.below hb3) _ _ rfl
        have v2 : (convert 43 9 (.slice ao3 rb.length cap3)).run Try.prog w3 = .ok (.string (sOf rb)) w3 := conv_any hrd _ _ rfl
        have HJ3 : Hid (Jt W w3 (fun b => w1.heap.size ≤ b ∧ b < w2.heap.size) g h k r c N Q S s s ∧ Wp w3 (fun b => w1.heap.size ≤ b ∧ b < w2.heap.size) ao rb.length) := ⟨HJ2.out.below hb3, (wp_owb HOW.out).only (X := fun _ => False) (.of_below hb3) (fun _ _ h => h)⟩
        clear hrd hb3 m1 m2 m3 HC2 HOW
        obtain ⟨L, hL⟩ : ∃ L, L = rb.length := ⟨_, rfl⟩
        rw [← hL] at v1 v2 HJ3 hrl ⊢
        clear hL
        obtain ⟨wm, rfl⟩ : ∃ x, x = wr := ⟨wr, rfl⟩
        go_wp2_with fail
        go_loopw [24] (fun x wr => ∃ j : Nat, j ≤ L ∧ x = .int .i64 j ∧ Hid (Jt W wr (fun b => w1.heap.size ≤ b ∧ b < w2.heap.size) g h k r c N Q S s s ∧ Wp wr (fun b => w1.heap.size ≤ b ∧ b < w2.heap.size) ao L)) (fun x _ => L - (intOf x).toNat)
        case atStart => exact ⟨0, Nat.zero_le _, rfl, HJ3.out⟩
        case round =>
          obtain ⟨j, hj, rfl, hin⟩ := hrel
          clear v1 v2
          by_cases hjl : j < L
          · obtain ⟨gb, rfl, hpg, hcell⟩ : ∃ g', ao = some ⟨g', 0, none⟩ ∧ (w1.heap.size ≤ g' ∧ g' < w2.heap.size) ∧ ∀ j, j < L → (wr.cell? ⟨g', j, none⟩).isSome = true ∧ wr.frozen? ⟨g', j, none⟩ = false := by
              rcases hin.out.2 with q | q
              · omega
              · exact q
            obtain ⟨t1, t2⟩ := hcell j hjl
            obtain ⟨vv, hvv⟩ := Option.isSome_iff_exists.1 t1
            have j1 : (0 : Int) ≤ (j : Int) := by omega
            have j2 : (j : Int) < (L : Int) := by omega
            have HPG : Hid (w1.heap.size ≤ gb ∧ gb < w2.heap.size) := hpg
            clear hcell t1 hpg
            go_wp2_with fail
            go_roundw
            case rel => exact ⟨j + 1, by omega, by go_num, hin.out.1.touch (Only.setCell (X := (fun b => w1.heap.size ≤ b ∧ b < w2.heap.size)) (p := ⟨gb, j, none⟩) (Only.refl _ _) HPG.out _), hin.out.2.set _ _⟩
            case measure => simp [intOf]; omega
          · obtain rfl : j = L := by omega
            have HJ5 : Hid (Jt W wr (fun b => w1.heap.size ≤ b ∧ b < w2.heap.size) g h k r c N Q S s s) := hin.out.1
            clear hin
            go_wp2_with fail
            refine (jt_same HJ5.out HG.out).mono ?_
            rintro e wz ⟨rfl, hjz⟩
            have HJZ : Hid (Jt W wz (fun _ => False) g h k r c N Q S s s) := hjz.any
            have HGZ : Hid (Gn N s) := HG.out
            clear hjz
            go_wp2_with fail
            go_roundw
            case rel => exact ⟨i + 1, s, by omega, by go_num, HJZ.out, HGZ.out⟩
            case measure => simp [intOf]; omega
      · go_wp2_with fail
        rw [← hw1] at f0 f1 f2 f3 f4 f5 ⊢
        clear hw1
        obtain ⟨ε, hε⟩ : ∃ ε, ε = wpE N d := ⟨_, rfl⟩
        have HEE : Hid (ε = wpE N d) := hε
        have en : (ε != ε) = false := by simp
        clear hε
        have HJF : Hid (Jt W w1 (fun b => wr.heap.size ≤ b ∧ b < w1.heap.size) g h k r c N Q S s s) := HJ.out.fresh HB1.out
        have HC1 := jt_wipe HJF.out d
        rw [← HEE.out] at HC1
        refine HC1.mono ?_
        clear HC1
        rintro e w2 ⟨rfl, hj2, ho2⟩
        have HJ2 : Hid (Jt W w2 (fun b => wr.heap.size ≤ b ∧ b < w1.heap.size) g h k r c N Q S (wpS N Q d s) s) := hj2
        have m1 := ho2.cell f1 (fun hh => hh.2 ⟨Nat.le_refl _, by have := HS1.out; show wr.heap.size < _; omega⟩)
        clear f0 f1 f2 f3 f4 f5 hj2 ho2
        go_wp2_with fail
        have HC2 := jt_rwipe HJ2.out d
        rw [← HEE.out] at HC2
        refine HC2.mono ?_
        clear HC2
        rintro e w3 ⟨rfl, hj3, ho3⟩
        have HJ3 : Hid (Jt W w3 (fun b => wr.heap.size ≤ b ∧ b < w1.heap.size) g h k r c N Q S (wpS N Q d s) (wpS N Q d s)) := hj3
        clear hj3 ho3
        go_wp2_with fail
        refine (jt_same HJ3.out (gn_wipe HG.out d)).mono ?_
        rintro e wz ⟨rfl, hjz⟩
        have HJZ : Hid (Jt W wz (fun _ => False) g h k r c N Q S (wpS N Q d s) (wpS N Q d s)) := hjz.any
        have HGZ : Hid (Gn N (wpS N Q d s)) := (gn_wipe HG.out d)
        clear hjz
        go_wp2_with fail
        go_roundw
        case rel => exact ⟨i + 1, (wpS N Q d s), by omega, by go_num, HJZ.out, HGZ.out⟩
        case measure => simp [intOf]; omega
      · go_wp2_with fail
        rw [← hw1] at f0 f1 f2 f3 f4 f5 ⊢
        clear hw1
        obtain ⟨ε, hε⟩ : ∃ ε, ε = cuE z := ⟨_, rfl⟩
        have HEE : Hid (ε = cuE z) := hε
        have en : (ε != ε) = false := by simp
        clear hε
        have HJF : Hid (Jt W w1 (fun b => wr.heap.size ≤ b ∧ b < w1.heap.size) g h k r c N Q S s s) := HJ.out.fresh HB1.out
        have HC1 := jt_cut HJF.out z hzi
        rw [← HEE.out] at HC1
        refine HC1.mono ?_
        clear HC1
        rintro e w2 ⟨rfl, hj2, ho2⟩
        have HJ2 : Hid (Jt W w2 (fun b => wr.heap.size ≤ b ∧ b < w1.heap.size) g h k r c N Q S (cuS z s) s) := hj2
        have m4 := ho2.cell f4 (fun hh => hh.2 ⟨Nat.le_refl _, by have := HS1.out; show wr.heap.size < _; omega⟩)
        clear f0 f1 f2 f3 f4 f5 hj2 ho2
        go_wp2_with fail
        have HC2 := jt_setcut HJ2.out z hzi
        rw [← HEE.out] at HC2
        refine HC2.mono ?_
        clear HC2
        rintro e w3 ⟨rfl, hj3, ho3⟩
        have HJ3 : Hid (Jt W w3 (fun b => wr.heap.size ≤ b ∧ b < w1.heap.size) g h k r c N Q S (cuS z s) (cuS z s)) := hj3
        clear hj3 ho3
        go_wp2_with fail
        refine (jt_same HJ3.out (gn_cut HG.out z)).mono ?_
        rintro e wz ⟨rfl, hjz⟩
        have HJZ : Hid (Jt W wz (fun _ => False) g h k r c N Q S (cuS z s) (cuS z s)) := hjz.any
        have HGZ : Hid (Gn N (cuS z s)) := (gn_cut HG.out z)
        clear hjz
        go_wp2_with fail
        go_roundw
        case rel => exact ⟨i + 1, (cuS z s), by omega, by go_num, HJZ.out, HGZ.out⟩
        case measure => simp [intOf]; omega
      · go_wp2_with fail
        rw [← hw1] at f0 f1 f2 f3 f4 f5 ⊢
        clear hw1
        have HJF : Hid (Jt W w1 (fun b => wr.heap.size ≤ b ∧ b < w1.heap.size) g h k r c N Q S s s) := HJ.out.fresh HB1.out
        have HC1 := jt_on HJF.out
        refine HC1.mono ?_
        clear HC1
        rintro e w2 ⟨rfl, hj2, ho2⟩
        have HJ2 : Hid (Jt W w2 (fun b => wr.heap.size ≤ b ∧ b < w1.heap.size) g h k r c N Q S (onSt s) s) := hj2
        clear f0 f1 f2 f3 f4 f5 hj2 ho2
        go_wp2_with fail
        have HC2 := jt_ron HJ2.out
        refine HC2.mono ?_
        clear HC2
        rintro e w3 ⟨rfl, hj3, ho3⟩
        have HJ3 : Hid (Jt W w3 (fun b => wr.heap.size ≤ b ∧ b < w1.heap.size) g h k r c N Q S (onSt s) (onSt s)) := hj3
        clear hj3 ho3
        go_wp2_with fail
        refine (jt_same HJ3.out (show Gn N (onSt s) from HG.out)).mono ?_
        rintro e wz ⟨rfl, hjz⟩
        have HJZ : Hid (Jt W wz (fun _ => False) g h k r c N Q S (onSt s) (onSt s)) := hjz.any
        have HGZ : Hid (Gn N (onSt s)) := (show Gn N (onSt s) from HG.out)
        clear hjz
        go_wp2_with fail
        go_roundw
        case rel => exact ⟨i + 1, (onSt s), by omega, by go_num, HJZ.out, HGZ.out⟩
        case measure => simp [intOf]; omega
      · go_wp2_with fail
        rw [← hw1] at f0 f1 f2 f3 f4 f5 ⊢
        clear hw1
        have HJF : Hid (Jt W w1 (fun b => wr.heap.size ≤ b ∧ b < w1.heap.size) g h k r c N Q S s s) := HJ.out.fresh HB1.out
        have HC1 := jt_whole HJF.out
        refine HC1.mono ?_
        clear HC1
        rintro e w2 ⟨rfl, hj2, ho2⟩
        have HJ2 : Hid (Jt W w2 (fun b => wr.heap.size ≤ b ∧ b < w1.heap.size) g h k r c N Q S (wholeSt s) s) := hj2
        clear f0 f1 f2 f3 f4 f5 hj2 ho2
        go_wp2_with fail
        have HC2 := jt_rwhole HJ2.out
        refine HC2.mono ?_
        clear HC2
        rintro e w3 ⟨rfl, hj3, ho3⟩
        have HJ3 : Hid (Jt W w3 (fun b => wr.heap.size ≤ b ∧ b < w1.heap.size) g h k r c N Q S (wholeSt s) (wholeSt s)) := hj3
        clear hj3 ho3
        go_wp2_with fail
        refine (jt_same HJ3.out (fun _ _ => rfl)).mono ?_
        rintro e wz ⟨rfl, hjz⟩
        have HJZ : Hid (Jt W wz (fun _ => False) g h k r c N Q S (wholeSt s) (wholeSt s)) := hjz.any
        have HGZ : Hid (Gn N (wholeSt s)) := (fun _ _ => rfl)
        clear hjz
        go_wp2_with fail
        go_roundw
        case rel => exact ⟨i + 1, (wholeSt s), by omega, by go_num, HJZ.out, HGZ.out⟩
        case measure => simp [intOf]; omega
      · go_wp2_with fail
        rw [← hw1] at f0 f1 f2 f3 f4 f5 ⊢
        clear hw1
        have HIM := jt_image HJ1.out
        obtain ⟨mm, hmm⟩ : ∃ mm, mm = N * Q * 2 := ⟨_, rfl⟩
        rw [← hmm] at HIM
        refine HIM.mono ?_
        clear HIM hmm
        rintro e w2 ⟨im, A', Ls, C', rfl, hsp, hle, hb2⟩
        have HSP : Hid (Spl w2 (fun b => w1.heap.size ≤ b ∧ b < w2.heap.size) im mm A' Ls C') := hsp
        have HJ2 : Hid (Jt W w2 (fun b => w1.heap.size ≤ b ∧ b < w2.heap.size) g h k r c N Q S s s) := HJ1.out.fresh hb2
        clear f0 f1 f2 f3 f4 f5 hsp hb2
        obtain ⟨w3, hw3⟩ : ∃ w3, w3 = w2.alloc (.cells #[.int .i64 k, .int .i64 r, .int .i64 c, .int .i64 (Q : Int), .slice (some ⟨im, 0, none⟩) mm mm] 26) := ⟨_, rfl⟩
        have HB3 : Hid (Below w2.heap.size w2 w3) := by rw [hw3]; exact below_alloc _ _
        obtain ⟨p0, p1, p2, p3, p4⟩ := img_new hw3
        rw [hw3] at p0 p1 p2 p3 p4
        go_wp2_with fail
        rw [← hw3]
        clear p0 p1 p2 p3 p4 hw3
        refine (spoil_any k r c Q w3 _ im mm mm A' Ls C' (HSP.out.below HB3.out) hle).mono ?_
        rintro e w4 ⟨rfl, ho4⟩
        have HJ4 : Hid (Jt W w4 (fun b => w1.heap.size ≤ b ∧ b < w2.heap.size) g h k r c N Q S s s) := (HJ2.out.below HB3.out).touch ho4
        clear ho4
        go_wp2_with fail
        refine (jt_same HJ4.out HG.out).mono ?_
        rintro e wz ⟨rfl, hjz⟩
        have HJZ : Hid (Jt W wz (fun _ => False) g h k r c N Q S s s) := hjz.any
        have HGZ : Hid (Gn N s) := HG.out
        clear hjz
        go_wp2_with fail
        go_roundw
        case rel => exact ⟨i + 1, s, by omega, by go_num, HJZ.out, HGZ.out⟩
        case measure => simp [intOf]; omega
      · go_wp2_with fail
        rw [← hw1] at f0 f1 f2 f3 f4 f5 ⊢
        clear hw1 f0 f1 f2 f3 f4 f5
        go_wp2_with fail
        refine (jt_same HJ1.out HG.out).mono ?_
        rintro e wz ⟨rfl, hjz⟩
        have HJZ : Hid (Jt W wz (fun _ => False) g h k r c N Q S s s) := hjz.any
        have HGZ : Hid (Gn N s) := HG.out
        clear hjz
        go_wp2_with fail
        go_roundw
        case rel => exact ⟨i + 1, s, by omega, by go_num, HJZ.out, HGZ.out⟩
        case measure => simp [intOf]; omega
    · obtain rfl : i = n := by omega
      go_wp2_with fail
      go_ret
      exact ⟨rfl, HJ.out.bel⟩
end Go.Proofs.Ytdicogmjjboilaa
