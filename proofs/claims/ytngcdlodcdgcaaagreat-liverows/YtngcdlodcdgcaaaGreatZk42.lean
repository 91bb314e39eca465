import Derived.Test.YtngcdlodcdgcaaaGreatZk40
import Derived.Test.YtngcdlodcdgcaaaGreatZk41
namespace Go.Proofs.YtngcdlodcdgcaaaGreat.Cn
open Go.RowKit
def ev (z : Sl) : Int := if ∀ i, i < z.vn -> z.V i = z.ce then z.ce else 0
def hs (N : Nat) (c : Int) (ix n : Nat) (F : Nat -> UInt8) : Int := ev (ofK 2 (he 0 N c (ix : Int) n F))
def hP (N : Nat) (c : Int) (L : Nat -> Nat) (F : Nat -> Nat -> UInt8) (i : Nat) : Int := hs N c i (L (2 * i)) (F (2 * i))
def hR (N : Nat) (c : Int) (L : Nat -> Nat) (F : Nat -> Nat -> UInt8) (i : Nat) : Int := hs N c i (L (2 * i + 1)) (F (2 * i + 1))
def onc (a b : Int) : Int := if b = a then 0 else b
def hQ (N : Nat) (c : Int) (L : Nat -> Nat) (F : Nat -> Nat -> UInt8) (i : Nat) : Int := onc (hP N c L F i) (hR N c L F i)
theorem dec_ce (N : Nat) (c : Int) (F : Nat -> UInt8) : 0 <= (dec N c F).ce := Int.natCast_nonneg _
theorem he_or (N : Nat) (c ix : Int) (n : Nat) (F : Nat -> UInt8) : he 0 N c ix n F = zSl \/ (isS N c n F = true /\ (dec N c F).ix = ix /\ he 0 N c ix n F = dec N c F) := by
  unfold he
  rw [if_pos rfl]
  cases h : isS N c n F
  · left
    show ofI ix zSl = zSl
    unfold ofI
    split <;> rfl
  · show ofI ix (dec N c F) = zSl \/ _ /\ _ /\ ofI ix (dec N c F) = _
    unfold ofI
    split
    · exact .inr ⟨rfl, ‹_›, rfl⟩
    · exact .inl rfl
theorem he_blank (N : Nat) (c ix : Int) (F : Nat -> UInt8) : he 0 N c ix 0 F = zSl := by
  rcases he_or N c ix 0 F with h | ⟨h, _⟩
  · exact h
  · have := (is_true h).1; unfold sz at this; omega
theorem he_ce (N : Nat) (c ix : Int) (n : Nat) (F : Nat -> UInt8) : 0 <= (he 0 N c ix n F).ce := by
  rcases he_or N c ix n F with h | ⟨_, _, h⟩ <;> rw [h]
  · exact Int.le_refl 0
  · exact dec_ce N c F
theorem gZ_one (N : Nat) (c ix : Int) (n : Nat) (F : Nat -> UInt8) (kd : UInt8) : gZ (he 0 N c ix n F) zSl kd = ofK kd (he 0 N c ix n F) := by
  unfold gZ
  rw [ofK_z]
  have h : ¬ (ofK kd (he 0 N c ix n F)).ce < zSl.ce := by
    unfold ofK
    have := he_ce N c ix n F
    have e : zSl.ce = 0 := rfl
    split
    · rw [e]; omega
    · omega
  rw [if_neg h]
theorem he_vn {N : Nat} {c ix : Int} {n : Nat} {F : Nat -> UInt8} : (he 0 N c ix n F).vn <= N := by
  rcases he_or N c ix n F with h | ⟨_, _, h⟩ <;> rw [h]
  · exact Nat.zero_le _
  · exact Nat.le_refl _
theorem ofK_vn {kd : UInt8} {z : Sl} {N : Nat} (h : z.vn <= N) : (ofK kd z).vn <= N := by
  unfold ofK
  split
  · exact h
  · exact Nat.zero_le _
theorem ev_bd {z : Sl} (h : 0 <= z.ce) : 0 <= ev z := by unfold ev; split <;> omega
theorem hs_nn (N : Nat) (c : Int) (ix n : Nat) (F : Nat -> UInt8) : 0 <= hs N c ix n F := by
  refine ev_bd ?_
  unfold ofK
  split
  · exact he_ce _ _ _ _ _
  · exact Int.le_refl 0
theorem hs_top (N : Nat) (c : Int) (ix n : Nat) (F : Nat -> UInt8) : hs N c ix n F <= 1073741824 := by
  have key : (he 0 N c (ix : Int) n F).ce <= 1073741824 := by
    rcases he_or N c ix n F with h | ⟨g, _, h⟩ <;> rw [h]
    · show (0 : Int) <= _; omega
    · exact (okS_nums (is_true g).2.2.2).1.2
  have kz : zSl.ce = 0 := rfl
  unfold hs ev ofK
  split <;> split <;> omega
theorem onc_bd {a b M : Int} (h0 : 0 <= b) (hb : b <= M) : 0 <= onc a b /\ onc a b <= M := by unfold onc; split <;> omega
theorem hP_bd (N : Nat) (c : Int) (L : Nat -> Nat) (F : Nat -> Nat -> UInt8) (i : Nat) : 0 <= hP N c L F i /\ hP N c L F i <= 1073741824 := ⟨hs_nn _ _ _ _ _, hs_top _ _ _ _ _⟩
theorem hQ_bd (N : Nat) (c : Int) (L : Nat -> Nat) (F : Nat -> Nat -> UInt8) (i : Nat) : 0 <= hQ N c L F i /\ hQ N c L F i <= 1073741824 := onc_bd (hs_nn _ _ _ _ _) (hs_top _ _ _ _ _)
theorem hPQ (N : Nat) (c : Int) (L : Nat -> Nat) (F : Nat -> Nat -> UInt8) (i : Nat) : hQ N c L F i = 0 \/ hQ N c L F i ≠ hP N c L F i := by
  unfold hQ onc
  split
  · exact .inl rfl
  · exact .inr ‹_›
set_option maxHeartbeats 400000 in
theorem ev1_any (w : World) (v ce : Int) (g : Nat) (hg : w.cell? ⟨g, 2, none⟩ = some (.int .i64 ce)) :
    Calls Tryz.prog 165 #[.int .i64 v, .pointer (some ⟨g, 0, none⟩)] w fun e w' => e = .returned (.bool (v != ce)) /\ w' = w := by
  go_enter Tryz.func165, Tryz.ntmps165
  go_wp2
  go_ret
  exact ⟨rfl, rfl⟩
set_option maxHeartbeats 1000000 in
set_option maxRecDepth 100000 in
theorem everywhere_any (w : World) (s : Sl) (ao : Option Addr) (ca : Nat) (bo : Option Addr) (cb : Nat) (hv : Vec w ao s.vn ca s.V) (hn : s.vn <= 1000) :
    Calls Tryz.prog 151 #[slv s ao ca bo cb] w fun e w' => e = .returned (.int .i64 (ev s)) /\ Below w.heap.size w w' := by
  obtain ⟨w0, hw0⟩ : ∃ w0, w0 = w.alloc (.cells #[.int .u8 ((s.kd.toNat : Nat) : Int), .int .i64 s.ix, .int .i64 s.ce, .int .i64 s.st, .slice ao s.vn ca, .slice bo s.dn cb] 83) := ⟨_, rfl⟩
  have b0 : Below w.heap.size w w0 := by rw [hw0]; exact below_alloc _ _
  have c2 : w0.cell? ⟨w.heap.size, 2, none⟩ = some (.int .i64 s.ce) := blk_held hw0 (Below.refl _ _) 2 rfl
  have HX := containsF_any w0 ao s.vn ca 165 #[.pointer (some ⟨w.heap.size, 0, none⟩)] s.V (fun i => s.V i != s.ce) hn (fun _ _ => rfl) (hv.rd.below b0) (fun i _ => ev1_any w0 (s.V i) s.ce w.heap.size c2)
  unfold slv
  by_cases h : ∀ i, i < s.vn -> s.V i = s.ce
  · have e1 : anyB s.vn (fun i => s.V i != s.ce) = false := by
      unfold anyB
      rw [decide_eq_true (fun i hi => by simp [h i hi])]; rfl
    have e2 : ev s = s.ce := if_pos h
    rw [e1] at HX
    rw [e2]
    clear h e1 e2
    go_enter Tryz.func151, Tryz.ntmps151
    go_wp2_with fail
    rw [<- hw0]
    refine HX.mono ?_
    rintro e w' ⟨rfl, hw'⟩
    obtain rfl := hw'.symm
    go_wp2_with fail
    go_ret
    exact ⟨rfl, by first | exact b0 | exact below_alloc _ _⟩
  · have e1 : anyB s.vn (fun i => s.V i != s.ce) = true := by
      unfold anyB
      rw [decide_eq_false (fun g => h fun i hi => by have := g i hi; simpa using this)]; rfl
    have e2 : ev s = 0 := if_neg h
    rw [e1] at HX
    rw [e2]
    clear h e1 e2
    go_enter Tryz.func151, Tryz.ntmps151
    go_wp2_with fail
    rw [<- hw0]
    refine HX.mono ?_
    rintro e w' ⟨rfl, hw'⟩
    obtain rfl := hw'.symm
    go_wp2_with fail
    go_ret
    exact ⟨rfl, by first | exact b0 | exact below_alloc _ _⟩
set_option maxHeartbeats 400000 in
set_option maxRecDepth 100000 in
theorem once_any (w : World) (a b : Int) :
    Calls Tryz.prog 152 #[.agg #[.int .i64 a, .int .i64 b]] w fun e w' => e = .returned (.agg #[.int .i64 a, .int .i64 (onc a b)]) /\ Below w.heap.size w w' := by
  unfold onc
  by_cases h : b = a
  · have hq : (b == a) = true := by simpa using h
    rw [if_pos h]
    clear h
    go_enter Tryz.func152, Tryz.ntmps152
    go_wp2
    refine bodyPost_ret (v := .agg #[.int .i64 a, .int .i64 0]) (by simp [results, Tryz.results152, go_sem]) rfl ⟨rfl, ?_⟩
    exact b_alloc (below_alloc _ _) _
  · have hq : (b == a) = false := by simpa using h
    rw [if_neg h]
    clear h
    go_enter Tryz.func152, Tryz.ntmps152
    go_wp2
    refine bodyPost_ret (v := .agg #[.int .i64 a, .int .i64 b]) (by simp [results, Tryz.results152, go_sem]) rfl ⟨rfl, ?_⟩
    exact b_alloc (below_alloc _ _) _
end Go.Proofs.YtngcdlodcdgcaaaGreat.Cn
namespace Go.Proofs.YtngcdlodcdgcaaaGreat.Cn
open Go.RowKit
def fl2 (P Q : Nat -> Int) (j : Nat) : Int := if j % 2 = 0 then P (j / 2) else Q (j / 2)
theorem fl2_0 (P Q : Nat -> Int) (i : Nat) : fl2 P Q (i * 2) = P i := by unfold fl2; rw [if_pos (by omega), show i * 2 / 2 = i by omega]
theorem fl2_1 (P Q : Nat -> Int) (i : Nat) : fl2 P Q (i * 2 + 1) = Q i := by unfold fl2; rw [if_neg (by omega), show (i * 2 + 1) / 2 = i by omega]
theorem fl2_put0 (P Q : Nat -> Int) (i : Nat) (v : Int) : put (i * 2) v (fl2 P Q) = fl2 (put i v P) Q := by
  funext j
  by_cases e : j = i * 2
  · rw [e, put_at, fl2_0, put_at]
  · rw [put_ne _ _ e]
    unfold fl2
    split
    · rw [put_ne _ _ (by omega)]
    · rfl
theorem fl2_put1 (P Q : Nat -> Int) (i : Nat) (v : Int) : put (i * 2 + 1) v (fl2 P Q) = fl2 P (put i v Q) := by
  funext j
  by_cases e : j = i * 2 + 1
  · rw [e, put_at, fl2_1, put_at]
  · rw [put_ne _ _ e]
    unfold fl2
    split
    · rfl
    · rw [put_ne _ _ (by omega)]
def Hol (B : Nat) (w : World) (a : Option Addr) (n cap : Nat) (P Q : Nat -> Int) : Prop := w.ownsRow B 234 2 (.slice a n cap) n (zOf (n * 2) (fl2 P Q))
theorem hol_nil (B : Nat) (w : World) (P Q : Nat -> Int) : Hol B w none 0 0 P Q := World.ownsRow_nil _ _ _ _
theorem Hol.mono {B B' : Nat} {w : World} {a : Option Addr} {n cap : Nat} {P Q : Nat -> Int} (h : Hol B w a n cap P Q) (hb : B' <= B) : Hol B' w a n cap P Q := by
  rcases h with ⟨h1, h2 | ⟨g, cp, cur, h2, h3, h4⟩⟩
  · exact ⟨h1, .inl h2⟩
  · exact ⟨h1, .inr ⟨g, cp, cur, h2, by omega, h4⟩⟩
theorem Hol.stay {B : Nat} {w w' : World} {a : Option Addr} {n cap : Nat} {P Q : Nat -> Int} (h : Hol B w a n cap P Q) (hb : ∀ g, B <= g -> g < w.heap.size -> w'.heap[g]? = w.heap[g]?) : Hol B w' a n cap P Q := by
  rcases h with ⟨h1, h2 | ⟨g, cp, cur, h2, h3, h4, h5⟩⟩
  · exact ⟨h1, .inl h2⟩
  · exact ⟨h1, .inr ⟨g, cp, cur, h2, h3, (hb g h3 (Array.getElem?_eq_some_iff.1 h4).1).trans h4, h5⟩⟩
theorem Hol.below {B : Nat} {w w' : World} {a : Option Addr} {n cap : Nat} {P Q : Nat -> Int} (h : Hol B w a n cap P Q) (hb : Below w.heap.size w w') : Hol B w' a n cap P Q := h.stay fun g _ hg => hb.block g hg
theorem Hol.at_ {B : Nat} {w : World} {a : Option Addr} {n cap : Nat} {P Q : Nat -> Int} (h : Hol B w a n cap P Q) (hn : 0 < n) : ∃ g, a = some ⟨g, 0, none⟩ /\ B <= g /\ g < w.heap.size := by
  rcases h with ⟨h1, ⟨_, h2⟩ | ⟨g, cp, cur, h2, h3, h4, _⟩⟩
  · omega
  · simp only [Value.slice.injEq] at h2
    exact ⟨g, h2.1, h3, (Array.getElem?_eq_some_iff.1 h4).1⟩
theorem Hol.c0 {B : Nat} {w : World} {g n cap : Nat} {P Q : Nat -> Int} (h : Hol B w (some ⟨g, 0, none⟩) n cap P Q) {i : Nat} (hi : i < n) : w.cell? ⟨g, i * 2, none⟩ = some (.int .i64 (P i)) := by
  have := World.ownsRow.cellAt h (i * 2) (by omega)
  rw [this, zOf_get _ _ _ (by omega), fl2_0]
theorem Hol.c1 {B : Nat} {w : World} {g n cap : Nat} {P Q : Nat -> Int} (h : Hol B w (some ⟨g, 0, none⟩) n cap P Q) {i : Nat} (hi : i < n) : w.cell? ⟨g, i * 2 + 1, none⟩ = some (.int .i64 (Q i)) := by
  have := World.ownsRow.cellAt h (i * 2 + 1) (by omega)
  rw [this, zOf_get _ _ _ (by omega), fl2_1]
theorem Hol.free {B : Nat} {w : World} {g n cap : Nat} {P Q : Nat -> Int} (h : Hol B w (some ⟨g, 0, none⟩) n cap P Q) (j : Nat) : w.frozen? ⟨g, j, none⟩ = false := World.ownsRow.frozenAt h j
theorem Hol.s0 {B : Nat} {w : World} {g n cap : Nat} {P Q : Nat -> Int} (h : Hol B w (some ⟨g, 0, none⟩) n cap P Q) (i : Nat) (v : Int) : Hol B (w.setCell ⟨g, i * 2, none⟩ (.int .i64 v)) (some ⟨g, 0, none⟩) n cap (put i v P) Q := by
  have := (World.ownsRow.stored h (i * 2) (.int .i64 v)).1
  rw [zOf_set, fl2_put0] at this; exact this
theorem Hol.s1 {B : Nat} {w : World} {g n cap : Nat} {P Q : Nat -> Int} (h : Hol B w (some ⟨g, 0, none⟩) n cap P Q) (i : Nat) (v : Int) : Hol B (w.setCell ⟨g, i * 2 + 1, none⟩ (.int .i64 v)) (some ⟨g, 0, none⟩) n cap P (put i v Q) := by
  have := (World.ownsRow.stored h (i * 2 + 1) (.int .i64 v)).1
  rw [zOf_set, fl2_put1] at this; exact this
theorem Hol.congr {B : Nat} {w : World} {a : Option Addr} {n cap : Nat} {P Q P' Q' : Nat -> Int} (h : Hol B w a n cap P Q) (e : ∀ i, i < n -> P i = P' i /\ Q i = Q' i) : Hol B w a n cap P' Q' := by
  unfold Hol at *
  rw [zOf_congr (S := fl2 P Q) (fun j hj => ?_)]
  · exact h
  · unfold fl2
    split
    · exact ((e _ (by omega)).1).symm
    · exact ((e _ (by omega)).2).symm
theorem info62 : (Tryz.prog.info? 234).map (fun i => (i.zero, i.size, i.bytes)) = some (some (.agg #[.int .i64 0, .int .i64 0]), 2, 16) := by kernel_rfl
theorem made2 (n : Nat) : (madeCells (Value.agg #[Value.int .i64 0, Value.int .i64 0]).cells (n * 2)).toList = zOf (n * 2) (fl2 (fun _ => 0) (fun _ => 0)) := by
  have hc : (Value.agg #[Value.int .i64 0, Value.int .i64 0]).cells = #[Value.int .i64 0, Value.int .i64 0] := by rfl
  rw [hc]
  apply List.ext_getElem?
  intro j
  by_cases hj : j < n * 2
  · rw [zOf_get _ _ _ hj]
    have e : fl2 (fun _ => 0) (fun _ => 0) j = 0 := by unfold fl2; split <;> rfl
    rw [e]
    simp only [madeCells, Array.toList_map, Array.toList_range, List.getElem?_map, List.getElem?_range hj, Option.map_some, Option.some.injEq]
    rcases Nat.mod_two_eq_zero_or_one j with h | h <;> simp [h]
  · simp [madeCells, zOf, hj]
theorem mk_hol (w : World) (n : Nat) (hn : n <= 16) : ∃ w', (Instr.makeSlice 215 (.int .i64 (n : Int)) (.int .i64 (n : Int))).run Tryz.prog w = .ok (.slice (some ⟨w.heap.size, 0, none⟩) n n) w' /\ Hol w.heap.size w' (some ⟨w.heap.size, 0, none⟩) n n (fun _ => 0) (fun _ => 0) /\ Below w.heap.size w w' := by
  obtain ⟨i0, hi, hi0, hi1, hi2⟩ := info_parts info62
  obtain ⟨w', h1, h2, h3⟩ := run_makeSlice_full (P := Tryz.prog) w w.heap.size 215 234 i0 _ 2 Tryz.underlying215 hi hi0 hi1 .i64 .i64 n (by omega) (by rw [hi2]; omega) (by unfold maxLen; omega) (Nat.le_refl _)
  rw [made2] at h2
  exact ⟨w', h1, h2, (Below.refl _ w).grown h3 (Nat.le_refl _) (fun j hj => by cases hj)⟩
theorem newest1 {k r c q : Int} {N W : Nat} (h : Par k r c q N W 0) (w : World) (a : Option Addr) (n cp : Nat) (F : Nat -> UInt8) (hb : Bec w a n cp F) (ix : Nat) (hx : ix < N) (hn : n = 0 \/ n = sz N c) (z : Sl) (hz : z = ofK 2 (he 0 N c (ix : Int) n F)) :
    Calls Tryz.prog 150 #[.agg #[.int .i64 k, .int .i64 r, .int .i64 c, .int .i64 q], .agg #[.slice a n cp, .slice none 0 0], .int .u8 2, .int .i64 (ix : Int)] w fun e w' => ∃ (nn : Nat) (ao : Option Addr) (ca : Nat) (bo : Option Addr) (cb : Nat) (i : Bool), e = .returned (.tuple #[.int .i64 (nn : Int), .agg #[.int .u8 ((z.kd.toNat : Nat) : Int), .int .i64 z.ix, .int .i64 z.ce, .int .i64 z.st, .slice ao z.vn ca, .slice bo z.dn cb], .bool i, .int .i64 0]) /\ Vec w' ao z.vn ca z.V /\ Below w.heap.size w w' := by
  have hE : erC 0 N c n 0 (((2 : UInt8).toNat : Nat) : Int) (ix : Int) = 0 := by
    have q0 : erQ 0 N c n = 0 := by unfold erQ; rw [if_pos rfl, if_pos hn]
    have q1 : erQ 0 N c 0 = 0 := by unfold erQ; rw [if_pos rfl, if_pos (Or.inl rfl)]
    have q2 : erT 0 N c n 0 = 0 := by unfold erT; rw [if_pos q0, q1]
    unfold erC
    rw [if_pos q2, if_pos ⟨Or.inr rfl, by omega, by omega⟩]
  have hc := Newest_any h w a n cp F none 0 0 F hb (bec_nil _ _) 2 (ix : Int) 0 hE _ _ rfl rfl
  rw [he_blank, gZ_one, <- hz] at hc
  refine hc.mono ?_
  rintro e w' ⟨ao, ca, bo, cb, he, hg, hw⟩
  exact ⟨_, ao, ca, bo, cb, _, he, hg.has.vec, hw⟩
theorem newest1_bad {k r c q : Int} {N W : Nat} (h : Par k r c q N W 0) (w : World) (a : Option Addr) (n cp : Nat) (F : Nat -> UInt8) (hb : Bec w a n cp F) (ix : Nat) (hn : ¬ (n = 0 \/ n = sz N c)) :
    Calls Tryz.prog 150 #[.agg #[.int .i64 k, .int .i64 r, .int .i64 c, .int .i64 q], .agg #[.slice a n cp, .slice none 0 0], .int .u8 2, .int .i64 (ix : Int)] w fun e w' => ∃ (nn : Nat) (z : Sl) (ao : Option Addr) (ca : Nat) (bo : Option Addr) (cb : Nat) (i : Bool), e = .returned (.tuple #[.int .i64 (nn : Int), .agg #[.int .u8 ((z.kd.toNat : Nat) : Int), .int .i64 z.ix, .int .i64 z.ce, .int .i64 z.st, .slice ao z.vn ca, .slice bo z.dn cb], .bool i, .int .i64 100]) /\ Below w.heap.size w w' := by
  have hE : erC 0 N c n 0 (((2 : UInt8).toNat : Nat) : Int) (ix : Int) = 100 := by
    have q0 : erQ 0 N c n = 100 := by unfold erQ; rw [if_pos rfl, if_neg hn]
    have q2 : erT 0 N c n 0 = 100 := by unfold erT; rw [q0, if_neg (by omega)]
    unfold erC
    rw [q2, if_neg (by omega)]
  have hc := Newest_any h w a n cp F none 0 0 F hb (bec_nil _ _) 2 (ix : Int) 100 hE _ _ rfl rfl
  refine hc.mono ?_
  rintro e w' ⟨ao, ca, bo, cb, he, hg, hw⟩
  exact ⟨_, _, ao, ca, bo, cb, _, he, hw⟩
end Go.Proofs.YtngcdlodcdgcaaaGreat.Cn
