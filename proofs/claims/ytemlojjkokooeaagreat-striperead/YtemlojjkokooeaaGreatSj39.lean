import Derived.Test.YtemlojjkokooeaaGreatSj38
set_option maxHeartbeats 8000000
set_option maxRecDepth 100000
namespace Go.Proofs.YtemlojjkokooeaaGreat
open Go.RowKit
structure PL (B : Nat) (w : World) (ao : Option Addr) (m cap N : Nat) (Lc os : Nat -> Nat) (nu : Int) (n : Nat) (T : Nat -> Option Addr) (U : Nat -> Nat) (G : Nat -> Nat -> UInt8) : Prop where
  out : w.ownsRow B 56 4 (.slice ao m cap) m (ptl Lc os nu n T U N)
  row : ∀ i, i < N -> Lc i ≠ 0 -> OwU B w (T i) n (U i) (G i)
theorem owns_mono {B B' : Nat} {w : World} {e s n : Nat} {v : Value} {xs : List Value} (h : w.ownsRow B e s v n xs) (hb : B' <= B) : w.ownsRow B' e s v n xs := by
 refine ⟨h.1, ?_⟩
 rcases h.2 with h1 | ⟨g, cap', cur, h1, h2, h3⟩
 ·exact .inl h1
 ·exact .inr ⟨g, cap', cur, h1, by omega, h3⟩
theorem PL.mono {B B' : Nat} {w : World} {ao : Option Addr} {m cap N : Nat} {Lc os : Nat -> Nat} {nu : Int} {n : Nat} {T : Nat -> Option Addr} {U : Nat -> Nat} {G : Nat -> Nat -> UInt8} (h : PL B w ao m cap N Lc os nu n T U G) (hb : B' <= B) : PL B' w ao m cap N Lc os nu n T U G :=
 ⟨owns_mono h.out hb, fun i hi hn => (h.row i hi hn).mono hb⟩
theorem zv_rng {N : Nat} {c : Int} {L : Nat -> Nat} {F : Nat -> Nat -> UInt8} {kd : UInt8} {v : Int} {i : Nat} (hi : i < N) : 0 <= (zv N c L F kd v i).ce /\ (zv N c L F kd v i).ce <= 1073741824 := by
 unfold zv
 rcases zz_is (kd := kd) (yy_ok N c L F) (tS (yy N c L F) kd v (2 * N)) hi with h | ⟨h, _⟩
 ·rw [h]; exact ⟨Int.le_refl 0, by decide⟩
 ·have := (ok_of h.1).V i hi
  rw [h.ce]; omega
def osl (N : Nat) (c : Int) (L : Nat -> Nat) (F : Nat -> Nat -> UInt8) (kd : UInt8) (ke : Int) (i : Nat) : Nat := oN (yy N c L F (2 * i)) (yy N c L F (2 * i + 1)) kd (zv N c L F kd ke i).ce
theorem puts_any {k r c q : Int} {N W : Nat} (h : Par k r c q N W 0) (w : World) (ro : Option Addr) (rc : Nat) (A : Nat -> Option Addr) (L C : Nat -> Nat) (F : Nat -> Nat -> UInt8) (hr : Rw w ro N A L C F) (hL : ∀ j, j < 2 * N -> L j = 0 \/ L j = sz N c) (kd : UInt8) (hk : kd = 1 \/ kd = 2) (nu ke : Int)
  (vo : Option Addr) (vc : Nat) (X : Nat -> Int) (hv : Vec w vo N vc X) (hX : ∀ j, j < N -> 1 <= X j /\ X j <= 1073741824) (lo : Option Addr) (cc : Nat) (Tc : Nat -> Option Addr) (Lc Uc : Nat -> Nat) (Dc : Nat -> Nat -> UInt8) (hl : RdC w lo N Tc Lc Uc) (hbc : ∀ i, i < N -> Bec w (Tc i) (Lc i) (Uc i) (Dc i)) (hLc : ∀ i, i < N -> Lc i = 0 \/ Lc i = c.toNat) :
  Calls Tryz.prog 83 #[stv k r c q ro N rc kd, .int .i64 nu, .int .i64 ke, .slice vo N vc, .slice lo N cc] w fun e w' => ∃ ao cap T U, e = .returned (.slice ao (Cod.cnt Lc N) cap) /\ PL w.heap.size w' ao (Cod.cnt Lc N) cap N Lc (osl N c L F kd ke) nu (sz N c) T U (fun i => enc (slC kd N X c.toNat (Dc i) i)) /\ Below w.heap.size w w' := by
 have HEA : Hid (∀ wf gc gi gp gn gv Y, Below w.heap.size w wf -> Cap w wf gp 43 56 4 0 [] Y -> Box w wf gc gi gn gv k r c q ro N rc kd nu vo vc lo cc -> Calls Tryz.prog 71 #[stv k r c q ro N rc kd, .int .i64 ke, .func (.func 149) #[] #[.pointer (some ⟨gc, 0, none⟩), .pointer (some ⟨gi, 0, none⟩), .pointer (some ⟨gp, 0, none⟩), .pointer (some ⟨gn, 0, none⟩), .pointer (some ⟨gv, 0, none⟩)]] wf fun e w' => e = .returned (.tuple #[]) /\ ∃ Y', Pts w gp (fun v => Box w v gc gi gn gv k r c q ro N rc kd nu vo vc lo cc) Lc (osl N c L F kd ke) nu (sz N c) (fun i => enc (slC kd N X c.toNat (Dc i) i)) N w' Y' /\ Only Y wf w' /\ ∀ g, Y' g -> Y g \/ wf.heap.size <= g) := fun wf gc gi gp gn gv Y hb hc hx => by
  refine each_any h w wf hb ro rc A L C F hr hL kd hk ke _ rfl 149 _ (Pts w gp (fun v => Box w v gc gi gn gv k r c q ro N rc kd nu vo vc lo cc) Lc (osl N c L F kd ke) nu (sz N c) (fun i => enc (slC kd N X c.toNat (Dc i) i))) ⟨fun _ _ => rfl, fun d a b Y hI hb => ?_, fun d a Y hI g hg => ?_, fun d hd u Y B hI hbu hB ao ca bo cb hg => ?_⟩ _ ⟨fun _ => none, fun _ => 0, hc, fun i hi => absurd hi (by omega), hx⟩
  ·obtain ⟨T, U, h1, h2, h3⟩ := hI
   exact ⟨T, U, h1.below hb, fun i hi hn => (h2 i hi hn).below hb, h3.below hb⟩
  ·obtain ⟨T, U, h1, _⟩ := hI
   exact h1.at_ g hg
  ·exact puts1_any h w u hbu ro rc A L C F hr hL kd hk gc gi gp gn gv d hd nu vo vc X hv hX lo cc Tc Lc Uc Dc hl hbc (hLc d hd) (zv N c L F kd ke d) (zv_rng hd) (osl N c L F kd ke) rfl Y ao ca bo cb hI
 obtain ⟨w0, hw0⟩ : ∃ w0, w0 = w.alloc (.cells #[.int .i64 k, .int .i64 r, .int .i64 c, .int .i64 q, .slice ro N rc, .int .u8 ((kd.toNat : Nat) : Int)] 99) := ⟨_, rfl⟩
 obtain ⟨w1, hw1⟩ : ∃ w1, w1 = w0.alloc (.cells #[.int .i64 nu] 3) := ⟨_, rfl⟩
 obtain ⟨w2, hw2⟩ : ∃ w2, w2 = w1.alloc (.cells #[.slice vo N vc] 27) := ⟨_, rfl⟩
 obtain ⟨w3, hw3⟩ : ∃ w3, w3 = w2.alloc (.cells #[.slice lo N cc] 33) := ⟨_, rfl⟩
 obtain ⟨w4, hw4⟩ : ∃ w4, w4 = w3.alloc (.cells #[.slice none 0 0] 43) := ⟨_, rfl⟩
 have b0 : Below w.heap.size w w0 := by rw [hw0]; exact below_alloc _ _
 have b1 : Below w0.heap.size w0 w1 := by rw [hw1]; exact below_alloc _ _
 have b2 : Below w1.heap.size w1 w2 := by rw [hw2]; exact below_alloc _ _
 have b3 : Below w2.heap.size w2 w3 := by rw [hw3]; exact below_alloc _ _
 have b4 : Below w3.heap.size w3 w4 := by rw [hw4]; exact below_alloc _ _
 have z0 : w0.heap.size = w.heap.size + 1 := by rw [hw0]; simp
 have z1 : w1.heap.size = w.heap.size + 1 + 1 := by rw [hw1]; simp [z0]
 have z2 : w2.heap.size = w.heap.size + 1 + 1 + 1 := by rw [hw2]; simp [z1]
 have z3 : w3.heap.size = w.heap.size + 1 + 1 + 1 + 1 := by rw [hw3]; simp [z2]
 have c1 := below_then b0 b1
 have c2 := below_then c1 b2
 have c3 := below_then c2 b3
 have c4 := below_then c3 b4
 have hbox : Box w w4 (w.heap.size + 1 + 1 + 1) w.heap.size (w.heap.size + 1) (w.heap.size + 1 + 1) k r c q ro N rc kd nu vo vc lo cc :=
  ⟨by rw [<- z2]; exact (at_made c2 hw3).below b4, (at_made (Below.refl _ _) hw0).below (below_then (below_then (below_then b1 b2) b3) b4), by rw [<- z0]; exact (at_made b0 hw1).below (below_then (below_then b2 b3) b4), by rw [<- z1]; exact (at_made c1 hw2).below (below_then b3 b4)⟩
 have hE2 := HEA.out w4 (w.heap.size + 1 + 1 + 1) w.heap.size (w.heap.size + 1 + 1 + 1 + 1) (w.heap.size + 1) (w.heap.size + 1 + 1) (fun x => x = w.heap.size + 1 + 1 + 1 + 1) c4 (cap_new c3 hw4 z3) hbox
 have HB4 : Hid (Below w.heap.size w w4) := c4
 clear h hr hL hv hX hl hbc hLc HEA hbox c1 c2 c3 c4 b0 b1 b2 b3 b4 z0 z1 z2 z3
 unfold stv at hE2 ⊢
 go_enter Tryz.func83, Tryz.ntmps83
 go_wp2_with fail
 rw [<- hw0, <- hw1, <- hw2, <- hw3, <- hw4]
 clear hw0 hw1 hw2 hw3 hw4
 refine hE2.mono ?_
 rintro e wf ⟨rfl, Y, ⟨T, U, ⟨ao, cap, hAt, hown, _⟩, hT, _⟩, hO, _⟩
 have s0 := hAt.cell (i := 0) rfl
 go_wp2_with fail
 go_ret
 exact ⟨ao, cap, T, U, rfl, ⟨hown, hT⟩, HB4.out.trans (hO.below (fun i hi => by omega) HB4.out.size)⟩
theorem wrapI {x : Int} (h : -9223372036854775808 <= x /\ x <= 9223372036854775807) : IntKind.i64.wrap x = x := by rw [IntKind.wrap_i64]; omega
theorem val_mul {i m p : Nat} (h : p = i * m) (hp : p <= 100000) : Value.int .i64 (wrap64 ((i : Int) * (m : Int))) = .int .i64 (p : Int) /\ Value.int .i64 (IntKind.i64.wrap ((i : Int) * (m : Int))) = .int .i64 (p : Int) := by
 rw [<- Int.natCast_mul, <- h, w64 _ ⟨by omega, by omega⟩, wrapI ⟨by omega, by omega⟩]
 exact ⟨rfl, rfl⟩
theorem val_mul2 {i m p : Nat} (h : p + m = (i + 1) * m) (hp : p + m <= 100000) : Value.int .i64 (wrap64 (((i : Int) + 1) * (m : Int))) = .int .i64 ((p + m : Nat) : Int) /\ Value.int .i64 (IntKind.i64.wrap (((i : Int) + 1) * (m : Int))) = .int .i64 ((p + m : Nat) : Int) := by
 have e : (i : Int) + 1 = ((i + 1 : Nat) : Int) := by omega
 rw [e, <- Int.natCast_mul, <- h, w64 _ ⟨by omega, by omega⟩, wrapI ⟨by omega, by omega⟩]
 exact ⟨rfl, rfl⟩
theorem cut2_any {K m : Nat} (r q : Int) (w : World) (b off dn dc : Nat) (hK : K <= 12) (hm0 : 0 < m) (hm : m <= 64) (hdn : dn = K * m) (hdc : dn <= dc) :
    Calls Tryz.prog 80 #[.agg #[.int .i64 (K : Int), .int .i64 r, .int .i64 (m : Int), .int .i64 q], .slice (some ⟨b, off, none⟩) dn dc] w fun e w' => ∃ ao cap, e = .returned (.slice ao K cap) /\ w'.ownsRow w.heap.size 36 1 (.slice ao K cap) K (Cod.rowsOf K (fun i => some ⟨b, off + i * m, none⟩) (fun _ => m) (fun _ => m)) /\ Below w.heap.size w w' := by
  obtain ⟨j0, hj, hj0, hj1, hj2⟩ := info_parts Cod.info23c
  obtain ⟨w0, hw0⟩ : ∃ w0, w0 = w.alloc (.cells #[.int .i64 (K : Int), .int .i64 r, .int .i64 (m : Int), .int .i64 q] 23) := ⟨_, rfl⟩
  have B0 : Hid (Below w.heap.size w w0) := by show Below _ _ _; rw [hw0]; exact below_alloc _ _
  have L0 : Hid (∀ v, Below w0.heap.size w0 v -> At w v w.heap.size #[.int .i64 (K : Int), .int .i64 r, .int .i64 (m : Int), .int .i64 q] 23) := fun v hv => (at_made (Below.refl _ _) hw0).below hv
  have HZ0 : Hid (w0.heap.size = w.heap.size + 1) := by show _ = _; rw [hw0]; simp
  have HDN : Hid (dn = K * m) := hdn
  have HMU : Hid (∀ i, i <= K -> i * m <= 1024) := fun i hi => mul_le16 hi (by omega) hm
  clear hdn
  go_enter Tryz.func80, Tryz.ntmps80
  go_wp2_with fail
  rw [<- hw0]
  have p0 := (L0.out w0 (Below.refl _ _)).cell (i := 0) rfl
  clear hw0
  go_wp2_with fail
  go_loopw [5, 11] (fun s x wr => ∃ i : Nat, i <= K /\ x = .int .i64 (i : Int) /\ ∃ ao c, s = .slice ao i c /\ Hid (wr.ownsRow w0.heap.size 36 1 (.slice ao i c) i (Cod.rowsOf i (fun i => some ⟨b, off + i * m, none⟩) (fun _ => m) (fun _ => m))) /\ Hid (Below w0.heap.size w0 wr)) (fun _ x _ => K - (intOf x).toNat)
  case atStart => exact ⟨0, Nat.zero_le _, rfl, none, 0, rfl, World.ownsRow_nil _ _ _ _, Below.refl _ _⟩
  case round =>
    obtain ⟨i, hi, rfl, ao, cp, rfl, hown, hbel⟩ := hrel
    by_cases hlt : i < K
    · have q2 := (L0.out wr hbel.out).cell (i := 2) rfl
      obtain ⟨p, hp⟩ : ∃ p, p = i * m := ⟨_, rfl⟩
      have hp1 : p + m = (i + 1) * m := by rw [hp, Nat.succ_mul]
      have hp2 : p + m <= dn := by rw [HDN.out, hp1]; exact Nat.mul_le_mul_right m hlt
      have hp3 : p + m <= 1024 := by rw [hp1]; exact HMU.out _ hlt
      obtain ⟨v1, v3⟩ := val_mul hp (by omega)
      obtain ⟨v2, v4⟩ := val_mul2 hp1 (by omega)
      have HP : Hid (p = i * m) := hp
      clear hp hp1
      go_wp2_with fail
      go_quiet (fail)
      obtain ⟨wd, hwd⟩ : ∃ wd, wd = wr.drewN nq := ⟨_, rfl⟩
      have bd : Below wr.heap.size wr wd := by rw [hwd]; exact below_drewN _ _ _
      rw [<- hwd]
      have HOW : Hid (wd.ownsRow w0.heap.size 36 1 (.slice ao i cp) i (Cod.rowsOf i (fun i => some ⟨b, off + i * m, none⟩) (fun _ => m) (fun _ => m))) := owns_below hown.out bd
      have HBD : Hid (Below w0.heap.size w0 wd) := below_then hbel.out bd
      obtain ⟨xs, hxs⟩ : ∃ xs, xs = Cod.rowsOf i (fun i => some (⟨b, off + i * m, none⟩ : Addr)) (fun _ => m) (fun _ => m) := ⟨_, rfl⟩
      rw [<- hxs] at HOW
      have HX : Hid (xs ++ [.slice (some ⟨b, off + p, none⟩) m m] = Cod.rowsOf (i + 1) (fun i => some ⟨b, off + i * m, none⟩) (fun _ => m) (fun _ => m)) := by
        show _ = _
        unfold Cod.rowsOf at hxs ⊢
        rw [List.range_succ, List.map_append, List.map_cons, List.map_nil, hxs, HP.out]
      have i1 : (0 : Int) <= (p : Int) := by omega
      have i2 : (p : Int) <= (p : Int) + (m : Int) := by omega
      have i3 : (p : Int) + (m : Int) <= (dc : Int) := by omega
      have i4 : ¬ (p : Int) + (m : Int) < 0 := by omega
      clear hwd bd hxs hown v1 v2 v3 v4 q2
      go_wp2_with (at_builtin; refine wpList_append_lies _ (by rfl) (.tmp 23) (.tmp 29) 33 (by rfl) w0.heap.size 36 j0 (.slice none 0 0) 1 24 Tryz.underlying33 hj hj0 hj1 hj2 (by rfl) (by decide) (.slice ao i cp) i xs (by rfl) (owns_below HOW.out (below_alloc _ _)) ⟨wd.heap.size, 0, none⟩ 1 1 [.slice (some ⟨b, off + p, none⟩) m m] (by simp [Act.eval]) (by rfl) (World.news_of_block (heap_alloc_new wd _)) (by simp [Value.oneCell']) (by decide) (by unfold maxLen; omega) (by omega) (by have := HBD.out.size; simp; omega) (wd.heap.size + 1) (by simp) ?_; intro g5 cap5 w5 hown5 hgrow5 _ _
                   have HO5 : Hid (w5.ownsRow w0.heap.size 36 1 (.slice (some ⟨g5, 0, none⟩) (i + 1) cap5) (i + 1) (Cod.rowsOf (i + 1) (fun i => some ⟨b, off + i * m, none⟩) (fun _ => m) (fun _ => m))) := by rw [<- HX.out]; exact hown5
                   have HB5 : Hid (Below w0.heap.size w0 w5) := (below_then HBD.out (below_alloc _ _)).grown hgrow5 (by have := HBD.out.size; simp; omega) (fun r hr => (HOW.out.lt r hr).1)
                   clear hown5 hgrow5)
      go_roundw
      case rel => exact ⟨i + 1, by omega, by go_num, _, cap5, rfl, HO5.out, HB5.out⟩
      case measure => simp [intOf]; omega
    · obtain rfl : i = K := by omega
      go_wp2_with fail
      go_ret
      exact ⟨ao, cp, rfl, owns_mono hown.out B0.out.size, below_then B0.out hbel.out⟩
end Go.Proofs.YtemlojjkokooeaaGreat
