/- Entries as bytes, by program and document. -/
import Derived.Test.YtfbfiecamaginaaDrE
namespace Go.Proofs.Ytfbfiecamaginaa
open Go.RowKit Go.Sort

/-- A new row of bytes. -/
theorem reb_lit {w w0 : World} (b : List UInt8) {cs : Array Value} (h0 : w0 = w.alloc (.cells cs 5)) (hc : cs.toList = bvl b) : Reb w0 (some ⟨w.heap.size, 0, none⟩) b b.length := by
  refine ⟨fun _ => ⟨_, _, rfl, fun j u hj => ?_⟩, (fun e => by cases e), Nat.le_refl _⟩
  rw [Nat.zero_add]
  refine blk_held h0 (Below.refl _ _) j ?_
  rw [← hc] at hj
  simpa using hj
theorem u8_of (n : Nat) : ((UInt8.ofNat n).toNat : Int) = ((n % 256 : Nat) : Int) := by rw [UInt8.toNat_ofNat']
theorem rb_vals {r : Int} (h0 : 0 ≤ r) (h1 : r < 65536) : bvl (rb r) = [.int .u8 (r / 256), .int .u8 (r % 256)] := by
  unfold bvl rb
  simp only [List.map_cons, List.map_nil]
  rw [u8_of, u8_of, show (((r / 256).toNat % 256 : Nat) : Int) = r / 256 by omega, show (((r % 256).toNat % 256 : Nat) : Int) = r % 256 by omega]
/-- An entry of its own. -/
def Ent (w : World) (g : Nat) (N : Nm) (R : Int) : Prop := w.heap[g]? = some (.cells #[.string ⟨N.toArray⟩, .int .i64 R] 34)
theorem ent_new (w : World) (N : Nm) (R : Int) : Ent (w.alloc (.cells #[.string ⟨N.toArray⟩, .int .i64 R] 34)) w.heap.size N R := heap_alloc_new w _
theorem Ent.cells {w : World} {g : Nat} {N : Nm} {R : Int} (h : Ent w g N R) : w.cell? ⟨g, 0, none⟩ = some (.string ⟨N.toArray⟩) ∧ w.cell? ⟨g, 1, none⟩ = some (.int .i64 R) := by
  unfold Ent at h
  exact ⟨by rw [Lib.cell_of_heap h]; rfl, by rw [Lib.cell_of_heap h]; rfl⟩
theorem Ent.lt {w : World} {g : Nat} {N : Nm} {R : Int} (h : Ent w g N R) : g < w.heap.size := (Array.getElem?_eq_some_iff.1 h).1
theorem Ent.below {w w' : World} {g : Nat} {N : Nm} {R : Int} (h : Ent w g N R) (hb : RowKit.Below w.heap.size w w') : Ent w' g N R := by
  unfold Ent; rw [hb.block g h.lt]; exact h
theorem Ent.grown {w w' : World} {g : Nat} {N : Nm} {R : Int} (h : Ent w g N R) {B E s n cap : Nat} {ao : Option Addr} {vs : List Value} (ho : Ow B w E s ao n cap vs) (hE : E ≠ 34) (hg : w.grownBy w' (Value.slice ao n cap).ownBlock) : Ent w' g N R := by
  unfold Ent
  rw [hg.block g h.lt]
  · exact h
  · rcases ho.2 with ⟨h1, _⟩ | ⟨g2, cap', cur, h1, _, h3, _⟩
    · cases h1; simp [Value.ownBlock]
    · cases h1
      intro e
      have e2 : g = g2 := by simpa [Value.ownBlock] using e
      subst e2
      rw [h] at h3
      cases h3
      exact hE rfl
set_option maxHeartbeats 1000000 in
set_option maxRecDepth 100000 in
theorem appendRow_any (B : Nat) (w : World) (hB : B ≤ w.heap.size) (ao : Option Addr) (b : List UInt8) (ca : Nat) (hv : OwB B w ao b ca) (hn : b.length ≤ 1000000) (r : Int) (h0 : 0 ≤ r) (h1 : r < 65536) :
    Calls Try.prog 32 #[.slice ao b.length ca, .int .i64 r] w fun e w' => ∃ ao' c' L, L = b ++ rb r ∧ e = .returned (.slice ao' L.length c') ∧ OwB B w' ao' L c' ∧ Below B w w' := by
  obtain ⟨w1, hw1⟩ : ∃ w1, w1 = w.alloc (.cells #[.int .u8 (r / 256), .int .u8 (r % 256)] 5) := ⟨_, rfl⟩
  have b1 : Below w.heap.size w w1 := by rw [hw1]; exact below_alloc _ _
  have hv1 := hv.below b1
  have hl : Reb w1 (some ⟨w.heap.size, 0, none⟩) (rb r) 2 := reb_lit (rb r) hw1 (by rw [rb_vals h0 h1])
  have hge := hv.ge
  have hs := b1.size
  have HB1 : Hid (Below w.heap.size w w1) := b1
  clear hv b1
  go_enter Try.func32, Try.ntmps32
  go_wp2_with (rw [← hw1]; at_builtin; refine append_bytes (by rfl) (.tmp 5) (.tmp 11) (by rfl) B ca 2 ao (some ⟨w.heap.size, 0, none⟩) b (rb r) (by rfl) (by rfl) hv1 hl (by simp [rb]; omega) (by omega) ?_; intro ao' c' w2 L hL ho hg; have HL : Hid (L = b ++ rb r) := hL; clear hL)
  clear hw1
  go_ret
  exact ⟨ao', c', L, HL.out, rfl, ho, (HB1.out.mono hB).grown hg (by omega) hge⟩
set_option maxHeartbeats 2000000 in
set_option maxRecDepth 100000 in
theorem Bytes_go {k r c q : Int} {M : Nat} {e : Int} (hp : PP k r c q M e) (w : World) (ao : Option Addr) (l : List En) (ca : Nat) (hv : Ren w ao l ca) (hf : Few l) :
    Calls Try.prog 10 #[.agg #[.int .i64 k, .int .i64 r, .int .i64 c, .int .i64 q], .slice ao l.length ca] w fun e' w' =>
      ∃ E bo cb L, E = erC e M q l ∧ L = (if E = 0 then bys l else []) ∧ e' = .returned (.tuple #[.slice bo L.length cb, .int .i64 E]) ∧ OwB w.heap.size w' bo L cb ∧ Below w.heap.size w w' := by
  obtain ⟨w0, hw0⟩ : ∃ w0, w0 = w.alloc (.cells #[.int .i64 k, .int .i64 r, .int .i64 c, .int .i64 q] 24) := ⟨_, rfl⟩
  have b0 : Below w.heap.size w w0 := by rw [hw0]; exact below_alloc _ _
  have HPAR : Hid (∀ v, Below w0.heap.size w0 v → v.cell? ⟨w.heap.size, 0, none⟩ = some (.int .i64 k) ∧ v.cell? ⟨w.heap.size, 1, none⟩ = some (.int .i64 r) ∧ v.cell? ⟨w.heap.size, 2, none⟩ = some (.int .i64 c) ∧ v.cell? ⟨w.heap.size, 3, none⟩ = some (.int .i64 q)) := fun v hv => par_held hw0 hv
  have HV : Hid (Ren w0 ao l ca) := hv.below b0
  have HB0 : Hid (Below w.heap.size w w0) := b0
  have HC := Check_e hp w0 ao l ca (hv.below b0) hf
  obtain ⟨x0, x1, x2, x3⟩ := HPAR.out w0 (Below.refl _ _)
  have HF : Hid (Few l) := hf
  have HP : Hid (PP k r c q M e) := hp
  clear hv hf b0 hp
  by_cases he : erC e M q l = 0
  · obtain ⟨h1, h2, h3⟩ := erC_zero he
    have HR : Hid (∀ i, i < l.length → (gN l i).length ≤ 24 ∧ 0 ≤ gR l i ∧ gR l i < 65536) := fun i hi => by
      have h4 := one_of h2 _ (List.getElem_mem hi)
      have h5 := (HP.out.rows h1).2
      rw [gN_eq hi, gR_eq hi]
      have h6 := wf_one h5 h4
      unfold oneE mayN at h4
      simp at h4
      exact ⟨by omega, h6.2⟩
    have HS : Hid (∀ i, i < l.length → bys (l.take (i + 1)) = bys (l.take i) ++ (([UInt8.ofNat (gN l i).length] ++ gN l i) ++ rb (gR l i))) := fun i hi => bys_take hi
    have HZ : Hid (∀ i, (bys (l.take i)).length ≤ 32768) := fun i => by rw [bys_length]; exact Nat.le_trans (sz_take_le l i) (Nat.le_trans h3 HP.out.top)
    have HA : Hid (bys (l.take l.length) = bys l) := by show _ = _; rw [List.take_length]
    have hln := HF.out.1
    have hln2 : (l.length : Int) ≤ 1000000 := by omega
    rw [he] at HC
    have HE : Hid (erC e M q l = 0) := he
    clear he h1 h2 h3
    go_enter Try.func10, Try.ntmps10
    go_wp2_with fail
    rw [← hw0]
    clear hw0
    refine HC.mono ?_
    rintro _ w1 ⟨rfl, h1⟩
    have HB1 : Hid (Below w0.heap.size w0 w1) := h1
    clear h1 HC x0 x1 x2 x3
    go_wp2_with fail
    go_loopw [7, 18] (fun v x wr => ∃ (i : Nat) (bo : Option Addr) (cb : Nat) (L : List UInt8), i ≤ l.length ∧ x = .int .i64 (i : Int) ∧ v = .slice bo L.length cb ∧ Hid (L = bys (l.take i)) ∧ Hid (OwB w0.heap.size wr bo L cb) ∧ Hid (Below w0.heap.size w0 wr)) (fun _ x _ => l.length - (intOf x).toNat)
    case atStart => exact ⟨0, none, 0, [], Nat.zero_le _, rfl, rfl, rfl, owb_nil _ _, HB1⟩
    case round =>
      obtain ⟨i, bo, cb, L, hi, rfl, rfl, hL, hown, hbel⟩ := hrel
      by_cases hlt : i < l.length
      · obtain ⟨b, off, rfl, hc⟩ := (HV.out.below hbel.out).at_ (by omega)
        obtain ⟨c0, c1⟩ := hc i hlt
        have HLL : Hid ((L ++ ([UInt8.ofNat (gN l i).length] ++ gN l i)) ++ rb (gR l i) = bys (l.take (i + 1))) := by show _ = _; rw [HS.out i hlt, hL.out, List.append_assoc]
        have hLn := HZ.out i
        rw [← hL.out] at hLn
        obtain ⟨r1, r2, r3⟩ := HR.out i hlt
        obtain ⟨N, hN⟩ : ∃ N, N = gN l i := ⟨_, rfl⟩
        obtain ⟨R, hR⟩ : ∃ R, R = gR l i := ⟨_, rfl⟩
        rw [← hN] at c0 HLL r1
        rw [← hR] at c1 HLL r2 r3
        have hs := str_size N
        have i1 : (0 : Int) ≤ (i : Int) := by omega
        have i2 : (i : Int) < (l.length : Int) := by omega
        clear hc hN hR
        obtain ⟨v1, hv1⟩ : ∃ w1, w1 = wr.alloc (.cells #[.string ⟨N.toArray⟩, .int .i64 R] 34) := ⟨_, rfl⟩
        have hb1 : RowKit.Below wr.heap.size wr v1 := by rw [hv1]; exact below_alloc _ _
        have en1 : Ent v1 wr.heap.size N R := by rw [hv1]; exact ent_new _ _ _
        obtain ⟨v2, hv2⟩ : ∃ w1, w1 = v1.alloc (.cells #[.int .u8 (N.length : Int)] 5) := ⟨_, rfl⟩
        have hb2 : RowKit.Below v1.heap.size v1 v2 := by rw [hv2]; exact below_alloc _ _
        have en2 : Ent v2 wr.heap.size N R := en1.below hb2
        have hlit : Reb v2 (some ⟨v1.heap.size, 0, none⟩) [UInt8.ofNat N.length] 1 := reb_lit [UInt8.ofNat N.length] hv2 (by simp [bvl]; omega)
        have hown2 := (hown.out.below hb1).below hb2
        rw [show v1.heap.size = wr.heap.size + 1 by rw [hv1]; simp] at hlit
        have hge := hown.out.ge
        have hsz0 := hbel.out.size
        have HB2 : Hid (RowKit.Below w0.heap.size w0 v2) := below_then (below_then hbel.out hb1) hb2
        have hsz2 := HB2.out.size
        have HEN2 : Hid (Ent v2 wr.heap.size N R) := en2
        obtain ⟨y0, y1⟩ := en1.cells
        clear hb1 hb2 en1 en2
        have hNm : (N.length : Int) % 256 = (N.length : Int) := by omega
        go_wp2_with (first
          | (rw [← hv1, ← hv2]; at_builtin; refine append_bytes (by rfl) (.tmp 22) (.tmp 27) (by rfl) w0.heap.size cb 1 bo (some ⟨wr.heap.size + 1, 0, none⟩) L [UInt8.ofNat N.length] (by rfl) (by rfl) hown2 hlit (by simp; omega) hsz2 ?_; intro bo2 cb2 v3 L2 hL2 hown3 hg3; have HL2 : Hid (L2 = L ++ [UInt8.ofNat N.length]) := hL2; have HB3 : Hid (RowKit.Below w0.heap.size w0 v3) := HB2.out.grown hg3 hsz2 hge; have HEN3 : Hid (Ent v3 wr.heap.size N R) := HEN2.out.grown hown2 (by decide) hg3; have hl2 : L2.length = L.length + 1 := (by rw [hL2]; simp); have HO3 : Hid (OwB w0.heap.size v3 bo2 L2 cb2) := hown3; clear hL2 hg3 hown3; obtain ⟨z0, z1⟩ := HEN3.out.cells; have hsz3 := HB3.out.size; have hl2b : L2.length ≤ 40000 := (by omega); have HHL2 : Hid (L2.length = L.length + 1) := hl2; clear hl2 hv1 hv2 hlit hown2 y0 y1)
          | (at_builtin; refine append_text (by rfl) (.tmp 29) (.tmp 31) (by rfl) w0.heap.size cb2 bo2 L2 N (by rfl) (by rfl) HO3.out (by omega) hsz3 ?_; intro bo3 cb3 v4 L3 hL3 hown4 hg4; have HL3 : Hid (L3 = L2 ++ N) := hL3; have HB4 : Hid (RowKit.Below w0.heap.size w0 v4) := HB3.out.grown hg4 hsz3 HO3.out.ge; have HEN4 : Hid (Ent v4 wr.heap.size N R) := HEN3.out.grown HO3.out (by decide) hg4; have hl3 : L3.length ≤ 50000 := (by rw [hL3]; simp; omega); have HO4 : Hid (OwB w0.heap.size v4 bo3 L3 cb3) := hown4; clear hL3 hg4 hown4 z0 z1; obtain ⟨z0, z1⟩ := HEN4.out.cells))
        have hap := appendRow_any w0.heap.size v4 HB4.out.size bo3 L3 cb3 HO4.out (by omega) R r2 r3
        go_wp2_with fail
        refine hap.mono ?_
        rintro _ v5 ⟨bo5, cb5, L5, hL5, rfl, hown5, hb5⟩
        have HL5 : Hid (L5 = L3 ++ rb R) := hL5
        clear hL5 hap
        go_wp2
        go_roundw
        case rel => exact ⟨i + 1, bo5, cb5, L5, by omega, by go_num, rfl, by show _ = _; rw [← HLL.out, HL5.out, HL3.out, HL2.out, List.append_assoc L], hown5, HB4.out.trans hb5⟩
        case measure => simp [intOf]; omega
      · obtain rfl : i = l.length := by omega
        have HLE : Hid (L = bys l) := by show _ = _; rw [hL.out, HA.out]
        go_wp2
        go_ret2
        exact ⟨0, bo, cb, L, HE.out.symm, by rw [if_pos rfl]; exact HLE.out, rfl, hown.out.mono HB0.out.size, below_then HB0.out hbel.out⟩
  · have hz : (erC e M q l != 0) = true := by simpa using he
    have HE : Hid (erC e M q l ≠ 0) := he
    obtain ⟨E, hE⟩ : ∃ E, E = erC e M q l := ⟨_, rfl⟩
    rw [← hE] at HC he hz HE
    have HEE : Hid (E = erC e M q l) := hE
    clear hE
    go_enter Try.func10, Try.ntmps10
    go_wp2_with fail
    rw [← hw0]
    clear hw0
    refine HC.mono ?_
    rintro _ w1 ⟨rfl, h1⟩
    go_wp2
    go_ret2
    exact ⟨E, none, 0, [], HEE.out, by rw [if_neg HE.out], rfl, owb_nil _ _, below_then HB0.out h1⟩
end Go.Proofs.Ytfbfiecamaginaa
