/- What each drive of a row holds of a descriptor: the program's answers. -/
import Derived.Test.YtmlnbnbgkpbjeaaCnMath
import Derived.Test.YtmlnbnbgkpbjeaaCeE
namespace Go.Proofs.Ytmlnbnbgkpbjeaa
open Go.RowKit

/-- A row of rn pairs at ro: slot number j lies at A j, has L j bytes, reads as F j. -/
structure Rw (w : World) (ro : Option Addr) (rn : Nat) (A : Nat → Option Addr) (L C : Nat → Nat) (F : Nat → Nat → UInt8) : Prop where
  at_ : 0 < rn → ∃ b off, ro = some ⟨b, off, none⟩ ∧ ∀ i, i < rn → w.cell? ⟨b, off + i * 2, none⟩ = some (.slice (A (2 * i)) (L (2 * i)) (C (2 * i))) ∧ w.cell? ⟨b, off + i * 2 + 1, none⟩ = some (.slice (A (2 * i + 1)) (L (2 * i + 1)) (C (2 * i + 1)))
  bec : ∀ j, j < 2 * rn → Bec w (A j) (L j) (C j) (F j)
theorem Rw.below {w w' : World} {ro : Option Addr} {rn : Nat} {A : Nat → Option Addr} {L C : Nat → Nat} {F : Nat → Nat → UInt8} (h : Rw w ro rn A L C F) (hb : Below w.heap.size w w') : Rw w' ro rn A L C F := by
  refine ⟨fun hp => ?_, fun j hj => (h.bec j hj).below hb⟩
  obtain ⟨b, off, rfl, hc⟩ := h.at_ hp
  exact ⟨b, off, rfl, fun i hi => ⟨held (hc i hi).1 hb, held (hc i hi).2 hb⟩⟩
/-- The error of a row. -/
def erR (x : Int) (N : Nat) (c : Int) (rn : Nat) (L : Nat → Nat) : Int := if x = 0 then (if rn = N ∧ ∀ j, j < 2 * rn → L j = 0 ∨ L j = sz N c then 0 else 120) else x
theorem Par.le {k r c q : Int} {N W : Nat} {e : Int} (h : Par k r c q N W e) : N ≤ 16 := by
  rcases h with ⟨h, _, h0, _⟩ | ⟨_, _, h0, _⟩
  · obtain ⟨h1, h2, h3, h4, h5, h6, h7, h8, h9⟩ := may_true h; omega
  · omega
/-- The version that a slot has for all cells; 0, if these have several. -/
def ev (z : Sl) : Int := if ∀ i, i < z.vn → z.V i = z.ce then z.ce else 0
/-- What a slot of drive ix holds of a descriptor. -/
def hs (N : Nat) (c : Int) (ix n : Nat) (F : Nat → UInt8) : Int := ev (ofK 2 (he 0 N c (ix : Int) n F))
def hP (N : Nat) (c : Int) (L : Nat → Nat) (F : Nat → Nat → UInt8) (i : Nat) : Int := hs N c i (L (2 * i)) (F (2 * i))
def hR (N : Nat) (c : Int) (L : Nat → Nat) (F : Nat → Nat → UInt8) (i : Nat) : Int := hs N c i (L (2 * i + 1)) (F (2 * i + 1))
/-- What both slots hold stands in the first alone. -/
def onc (a b : Int) : Int := if b = a then 0 else b
def hQ (N : Nat) (c : Int) (L : Nat → Nat) (F : Nat → Nat → UInt8) (i : Nat) : Int := onc (hP N c L F i) (hR N c L F i)
theorem ev_z : ev zSl = 0 := rfl
theorem dec_ce (N : Nat) (c : Int) (F : Nat → UInt8) : 0 ≤ (dec N c F).ce := Int.natCast_nonneg _
theorem he_or (N : Nat) (c ix : Int) (n : Nat) (F : Nat → UInt8) : he 0 N c ix n F = zSl ∨ (isS N c n F = true ∧ (dec N c F).ix = ix ∧ he 0 N c ix n F = dec N c F) := by
  unfold he
  rw [if_pos rfl]
  cases h : isS N c n F
  · left
    show ofI ix zSl = zSl
    unfold ofI
    split <;> rfl
  · show ofI ix (dec N c F) = zSl ∨ _ ∧ _ ∧ ofI ix (dec N c F) = _
    unfold ofI
    split
    · exact .inr ⟨rfl, ‹_›, rfl⟩
    · exact .inl rfl
theorem he_blank (N : Nat) (c ix : Int) (F : Nat → UInt8) : he 0 N c ix 0 F = zSl := by
  rcases he_or N c ix 0 F with h | ⟨h, _⟩
  · exact h
  · have := (is_true h).1; unfold sz at this; omega
theorem he_ce (N : Nat) (c ix : Int) (n : Nat) (F : Nat → UInt8) : 0 ≤ (he 0 N c ix n F).ce := by
  rcases he_or N c ix n F with h | ⟨_, _, h⟩ <;> rw [h]
  · exact Int.le_refl 0
  · exact dec_ce N c F
theorem gZ_one (N : Nat) (c ix : Int) (n : Nat) (F : Nat → UInt8) (kd : UInt8) : gZ (he 0 N c ix n F) zSl kd = ofK kd (he 0 N c ix n F) := by
  unfold gZ
  rw [ofK_z]
  have h : ¬ (ofK kd (he 0 N c ix n F)).ce < zSl.ce := by
    unfold ofK
    have := he_ce N c ix n F
    have e : zSl.ce = 0 := rfl
    split
    · rw [e]; omega
    · omega
  rw [if_neg h]
theorem he_vn {N : Nat} {c ix : Int} {n : Nat} {F : Nat → UInt8} : (he 0 N c ix n F).vn ≤ N := by
  rcases he_or N c ix n F with h | ⟨_, _, h⟩ <;> rw [h]
  · exact Nat.zero_le _
  · exact Nat.le_refl _
theorem ofK_vn {kd : UInt8} {z : Sl} {N : Nat} (h : z.vn ≤ N) : (ofK kd z).vn ≤ N := by
  unfold ofK
  split
  · exact h
  · exact Nat.zero_le _
theorem ev_bd {z : Sl} (h : 0 ≤ z.ce) : 0 ≤ ev z := by unfold ev; split <;> omega
theorem hs_nn (N : Nat) (c : Int) (ix n : Nat) (F : Nat → UInt8) : 0 ≤ hs N c ix n F := by
  refine ev_bd ?_
  unfold ofK
  split
  · exact he_ce _ _ _ _ _
  · exact Int.le_refl 0
theorem hs_top (N : Nat) (c : Int) (ix n : Nat) (F : Nat → UInt8) : hs N c ix n F ≤ 1073741824 := by
  have key : (he 0 N c (ix : Int) n F).ce ≤ 1073741824 := by
    rcases he_or N c ix n F with h | ⟨g, _, h⟩ <;> rw [h]
    · show (0 : Int) ≤ _; omega
    · exact (okS_nums (is_true g).2.2.2).1.2
  have kz : zSl.ce = 0 := rfl
  unfold hs ev ofK
  split <;> split <;> omega
theorem onc_bd {a b M : Int} (h0 : 0 ≤ b) (hb : b ≤ M) : 0 ≤ onc a b ∧ onc a b ≤ M := by unfold onc; split <;> omega
theorem hP_bd (N : Nat) (c : Int) (L : Nat → Nat) (F : Nat → Nat → UInt8) (i : Nat) : 0 ≤ hP N c L F i ∧ hP N c L F i ≤ 1073741824 := ⟨hs_nn _ _ _ _ _, hs_top _ _ _ _ _⟩
theorem hQ_bd (N : Nat) (c : Int) (L : Nat → Nat) (F : Nat → Nat → UInt8) (i : Nat) : 0 ≤ hQ N c L F i ∧ hQ N c L F i ≤ 1073741824 := onc_bd (hs_nn _ _ _ _ _) (hs_top _ _ _ _ _)
theorem hPQ (N : Nat) (c : Int) (L : Nat → Nat) (F : Nat → Nat → UInt8) (i : Nat) : hQ N c L F i = 0 ∨ hQ N c L F i ≠ hP N c L F i := by
  unfold hQ onc
  split
  · exact .inl rfl
  · exact .inr ‹_›
theorem hQ_or (N : Nat) (c : Int) (L : Nat → Nat) (F : Nat → Nat → UInt8) (i : Nat) {v : Int} (hv : v ≠ 0) : (hP N c L F i = v ∨ hQ N c L F i = v) ↔ (hP N c L F i = v ∨ hR N c L F i = v) := by
  unfold hQ onc
  split
  · rename_i e
    rw [e]
    constructor
    · rintro (h | h); exact .inl h; exact absurd h.symm hv
    · rintro (h | h); exact .inl h; exact .inl h
  · exact Iff.rfl

set_option maxHeartbeats 400000 in
theorem ev1_any (w : World) (v ce : Int) (g : Nat) (hg : w.cell? ⟨g, 2, none⟩ = some (.int .i64 ce)) :
    Calls Try.prog 48 #[.int .i64 v, .pointer (some ⟨g, 0, none⟩)] w fun e w' => e = .returned (.bool (v != ce)) ∧ w' = w := by
  go_enter Try.func48, Try.ntmps48
  go_wp2
  go_ret
  exact ⟨rfl, rfl⟩
set_option maxHeartbeats 1000000 in
set_option maxRecDepth 100000 in
theorem everywhere_any (w : World) (s : Sl) (ao : Option Addr) (ca : Nat) (bo : Option Addr) (cb : Nat) (hv : Vec w ao s.vn ca s.V) (hn : s.vn ≤ 1000) :
    Calls Try.prog 35 #[slv s ao ca bo cb] w fun e w' => e = .returned (.int .i64 (ev s)) ∧ Below w.heap.size w w' := by
  obtain ⟨w0, hw0⟩ : ∃ w0, w0 = w.alloc (.cells #[.int .u8 ((s.kd.toNat : Nat) : Int), .int .i64 s.ix, .int .i64 s.ce, .int .i64 s.st, .slice ao s.vn ca, .slice bo s.dn cb] 68) := ⟨_, rfl⟩
  have b0 : Below w.heap.size w w0 := by rw [hw0]; exact below_alloc _ _
  have c2 : w0.cell? ⟨w.heap.size, 2, none⟩ = some (.int .i64 s.ce) := blk_held hw0 (Below.refl _ _) 2 rfl
  have HX := containsF_any w0 ao s.vn ca 48 #[.pointer (some ⟨w.heap.size, 0, none⟩)] s.V (fun i => s.V i != s.ce) hn (fun _ _ => rfl) (hv.rd.below b0) (fun i _ => ev1_any w0 (s.V i) s.ce w.heap.size c2)
  unfold slv
  by_cases h : ∀ i, i < s.vn → s.V i = s.ce
  · have e1 : anyB s.vn (fun i => s.V i != s.ce) = false := by
      unfold anyB
      rw [decide_eq_true (fun i hi => by simp [h i hi])]; rfl
    have e2 : ev s = s.ce := if_pos h
    rw [e1] at HX
    rw [e2]
    clear h e1 e2
    go_enter Try.func35, Try.ntmps35
    go_wp2_with fail
    rw [← hw0]
    refine HX.mono ?_
    rintro e w' ⟨rfl, hw'⟩
    obtain rfl := hw'.symm
    go_wp2_with fail
    go_ret
    exact ⟨rfl, by first | exact b0 | exact below_alloc _ _⟩
  · have e1 : anyB s.vn (fun i => s.V i != s.ce) = true := by
      unfold anyB
      rw [decide_eq_false (fun g => h fun i hi => by have := g i hi; simpa using this)]; rfl
    have e2 : ev s = 0 := if_neg h
    rw [e1] at HX
    rw [e2]
    clear h e1 e2
    go_enter Try.func35, Try.ntmps35
    go_wp2_with fail
    rw [← hw0]
    refine HX.mono ?_
    rintro e w' ⟨rfl, hw'⟩
    obtain rfl := hw'.symm
    go_wp2_with fail
    go_ret
    exact ⟨rfl, by first | exact b0 | exact below_alloc _ _⟩
set_option maxHeartbeats 400000 in
set_option maxRecDepth 100000 in
theorem once_any (w : World) (a b : Int) :
    Calls Try.prog 36 #[.agg #[.int .i64 a, .int .i64 b]] w fun e w' => e = .returned (.agg #[.int .i64 a, .int .i64 (onc a b)]) ∧ Below w.heap.size w w' := by
  unfold onc
  by_cases h : b = a
  · have hq : (b == a) = true := by simpa using h
    rw [if_pos h]
    clear h
    go_enter Try.func36, Try.ntmps36
    go_wp2
    refine bodyPost_ret (v := .agg #[.int .i64 a, .int .i64 0]) (by simp [results, Try.results36, go_sem]) rfl ⟨rfl, ?_⟩
    exact b_alloc (below_alloc _ _) _
  · have hq : (b == a) = false := by simpa using h
    rw [if_neg h]
    clear h
    go_enter Try.func36, Try.ntmps36
    go_wp2
    refine bodyPost_ret (v := .agg #[.int .i64 a, .int .i64 b]) (by simp [results, Try.results36, go_sem]) rfl ⟨rfl, ?_⟩
    exact b_alloc (below_alloc _ _) _
set_option maxHeartbeats 400000 in
set_option maxRecDepth 100000 in
theorem has_any (w : World) (a b v : Int) :
    Calls Try.prog 30 #[.agg #[.int .i64 a, .int .i64 b], .int .i64 v] w fun e w' => e = .returned (.bool (decide (a = v ∨ b = v))) ∧ Below w.heap.size w w' := by
  by_cases h : a = v
  · have hq : (a == v) = true := by simpa using h
    rw [decide_eq_true (.inl h)]
    clear h
    go_enter Try.func30, Try.ntmps30
    go_wp2
    go_ret
    exact ⟨rfl, below_alloc _ _⟩
  · have hq : (a == v) = false := by simpa using h
    have e : (decide (a = v ∨ b = v)) = (b == v) := by
      by_cases g : b = v
      · rw [decide_eq_true (.inr g)]; simpa using g
      · rw [decide_eq_false (fun k => k.elim h g)]; symm; simpa using g
    rw [e]
    clear h e
    go_enter Try.func30, Try.ntmps30
    go_wp2
    go_ret
    exact ⟨rfl, below_alloc _ _⟩
end Go.Proofs.Ytmlnbnbgkpbjeaa
