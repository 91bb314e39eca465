import Derived.Test.YtemlojjkokooeaaGreatTj35
set_option maxHeartbeats 4000000
set_option maxRecDepth 100000
namespace Go.Proofs.YtemlojjkokooeaaGreat
open Go.RowKit
def ptl (Lc os : Nat -> Nat) (nu : Int) (n : Nat) (T : Nat -> Option Addr) (U : Nat -> Nat) : Nat -> List Value
  | 0 => []
  | d + 1 => if Lc d = 0 then ptl Lc os nu n T U d else ptl Lc os nu n T U d ++ [.int .i64 (d : Int), .int .i64 nu, .int .i64 ((os d : Nat) : Int), .slice (T d) n (U d)]
theorem ptl_congr {Lc os : Nat -> Nat} {nu : Int} {n : Nat} {T T' : Nat -> Option Addr} {U U' : Nat -> Nat} : ∀ {d : Nat}, (∀ i, i < d -> T i = T' i /\ U i = U' i) -> ptl Lc os nu n T U d = ptl Lc os nu n T' U' d
 | 0, _ => rfl
 | d + 1, h => by
  rw [ptl, ptl, ptl_congr (d := d) (fun i hi => h i (by omega)), (h d (by omega)).1, (h d (by omega)).2]
structure Box (wz v : World) (gc gi gn gv : Nat) (k r c q : Int) (ro : Option Addr) (N rc : Nat) (kd : UInt8) (nu : Int) (vo : Option Addr) (vc : Nat) (lo : Option Addr) (cc : Nat) : Prop where
  cells : At wz v gc #[.slice lo N cc] 33
  stand : At wz v gi #[.int .i64 k, .int .i64 r, .int .i64 c, .int .i64 q, .slice ro N rc, .int .u8 ((kd.toNat : Nat) : Int)] 99
  num : At wz v gn #[.int .i64 nu] 3
  vec : At wz v gv #[.slice vo N vc] 27
theorem Box.below {wz v v' : World} {gc gi gn gv : Nat} {k r c q : Int} {ro : Option Addr} {N rc : Nat} {kd : UInt8} {nu : Int} {vo : Option Addr} {vc : Nat} {lo : Option Addr} {cc : Nat} (h : Box wz v gc gi gn gv k r c q ro N rc kd nu vo vc lo cc) (hb : Below v.heap.size v v') : Box wz v' gc gi gn gv k r c q ro N rc kd nu vo vc lo cc :=
 ⟨h.cells.below hb, h.stand.below hb, h.num.below hb, h.vec.below hb⟩
theorem Box.only {wz v v' : World} {gc gi gn gv gp m : Nat} {xs : List Value} {Y : Nat -> Prop} {k r c q : Int} {ro : Option Addr} {N rc : Nat} {kd : UInt8} {nu : Int} {vo : Option Addr} {vc : Nat} {lo : Option Addr} {cc : Nat} (h : Box wz v gc gi gn gv k r c q ro N rc kd nu vo vc lo cc) (hc : Cap wz v gp 43 56 4 m xs Y) (ho : Only Y v v') : Box wz v' gc gi gn gv k r c q ro N rc kd nu vo vc lo cc :=
 ⟨h.cells.only ho (cap_apart hc h.cells.2 (by decide) (by decide)), h.stand.only ho (cap_apart hc h.stand.2 (by decide) (by decide)), h.num.only ho (cap_apart hc h.num.2 (by decide) (by decide)), h.vec.only ho (cap_apart hc h.vec.2 (by decide) (by decide))⟩
structure PL (B : Nat) (w : World) (ao : Option Addr) (m cap N : Nat) (Lc os : Nat -> Nat) (nu : Int) (n : Nat) (T : Nat -> Option Addr) (U : Nat -> Nat) (G : Nat -> Nat -> UInt8) : Prop where
  out : w.ownsRow B 56 4 (.slice ao m cap) m (ptl Lc os nu n T U N)
  row : ∀ i, i < N -> Lc i ≠ 0 -> OwU B w (T i) n (U i) (G i)
theorem PL.below {B : Nat} {w w' : World} {ao : Option Addr} {m cap N : Nat} {Lc os : Nat -> Nat} {nu : Int} {n : Nat} {T : Nat -> Option Addr} {U : Nat -> Nat} {G : Nat -> Nat -> UInt8} (h : PL B w ao m cap N Lc os nu n T U G) (hb : Below w.heap.size w w') : PL B w' ao m cap N Lc os nu n T U G :=
 ⟨owns_below h.out hb, fun i hi hn => (h.row i hi hn).below hb⟩
theorem owns_mono {B B' : Nat} {w : World} {e s n : Nat} {v : Value} {xs : List Value} (h : w.ownsRow B e s v n xs) (hb : B' <= B) : w.ownsRow B' e s v n xs := by
 refine ⟨h.1, ?_⟩
 rcases h.2 with h1 | ⟨g, cap', cur, h1, h2, h3⟩
 ·exact .inl h1
 ·exact .inr ⟨g, cap', cur, h1, by omega, h3⟩
theorem PL.mono {B B' : Nat} {w : World} {ao : Option Addr} {m cap N : Nat} {Lc os : Nat -> Nat} {nu : Int} {n : Nat} {T : Nat -> Option Addr} {U : Nat -> Nat} {G : Nat -> Nat -> UInt8} (h : PL B w ao m cap N Lc os nu n T U G) (hb : B' <= B) : PL B' w ao m cap N Lc os nu n T U G :=
 ⟨owns_mono h.out hb, fun i hi hn => (h.row i hi hn).mono hb⟩
theorem zv_rng {N : Nat} {c : Int} {L : Nat -> Nat} {F : Nat -> Nat -> UInt8} {kd : UInt8} {v : Int} {i : Nat} (hi : i < N) : 0 <= (zv N c L F kd v i).ce /\ (zv N c L F kd v i).ce <= 1073741824 := by
 unfold zv
 rcases zz_is (kd := kd) (yy_ok N c L F) (tS (yy N c L F) kd v (2 * N)) hi with h | ⟨h, _⟩
 ·rw [h]; exact ⟨Int.le_refl 0, by decide⟩
 ·have := (ok_of h.1).V i hi
  rw [h.ce]; omega
def osl (N : Nat) (c : Int) (L : Nat -> Nat) (F : Nat -> Nat -> UInt8) (kd : UInt8) (ke : Int) (i : Nat) : Nat := oN (yy N c L F (2 * i)) (yy N c L F (2 * i + 1)) kd (zv N c L F kd ke i).ce
theorem wrapI {x : Int} (h : -9223372036854775808 <= x /\ x <= 9223372036854775807) : IntKind.i64.wrap x = x := by rw [IntKind.wrap_i64]; omega
theorem val_mul {i m p : Nat} (h : p = i * m) (hp : p <= 100000) : Value.int .i64 (wrap64 ((i : Int) * (m : Int))) = .int .i64 (p : Int) /\ Value.int .i64 (IntKind.i64.wrap ((i : Int) * (m : Int))) = .int .i64 (p : Int) := by
 rw [<- Int.natCast_mul, <- h, w64 _ ⟨by omega, by omega⟩, wrapI ⟨by omega, by omega⟩]
 exact ⟨rfl, rfl⟩
theorem val_mul2 {i m p : Nat} (h : p + m = (i + 1) * m) (hp : p + m <= 100000) : Value.int .i64 (wrap64 (((i : Int) + 1) * (m : Int))) = .int .i64 ((p + m : Nat) : Int) /\ Value.int .i64 (IntKind.i64.wrap (((i : Int) + 1) * (m : Int))) = .int .i64 ((p + m : Nat) : Int) := by
 have e : (i : Int) + 1 = ((i + 1 : Nat) : Int) := by omega
 rw [e, <- Int.natCast_mul, <- h, w64 _ ⟨by omega, by omega⟩, wrapI ⟨by omega, by omega⟩]
 exact ⟨rfl, rfl⟩
theorem cut2_any {K m : Nat} (r q : Int) (w : World) (b off dn dc : Nat) (hK : K <= 12) (hm0 : 0 < m) (hm : m <= 64) (hdn : dn = K * m) (hdc : dn <= dc) :
    Calls Tryz.prog 80 #[.agg #[.int .i64 (K : Int), .int .i64 r, .int .i64 (m : Int), .int .i64 q], .slice (some ⟨b, off, none⟩) dn dc] w fun e w' => ∃ ao cap, e = .returned (.slice ao K cap) /\ w'.ownsRow w.heap.size 36 1 (.slice ao K cap) K (Cod.rowsOf K (fun i => some ⟨b, off + i * m, none⟩) (fun _ => m) (fun _ => m)) /\ Below w.heap.size w w' := by
  obtain ⟨j0, hj, hj0, hj1, hj2⟩ := info_parts Cod.info23c
  obtain ⟨w0, hw0⟩ : ∃ w0, w0 = w.alloc (.cells #[.int .i64 (K : Int), .int .i64 r, .int .i64 (m : Int), .int .i64 q] 23) := ⟨_, rfl⟩
  have B0 : Hid (Below w.heap.size w w0) := by show Below _ _ _; rw [hw0]; exact bal _ _
  have L0 : Hid (∀ v, Below w0.heap.size w0 v -> At w v w.heap.size #[.int .i64 (K : Int), .int .i64 r, .int .i64 (m : Int), .int .i64 q] 23) := fun v hv => (at_made (Below.refl _ _) hw0).below hv
  have HZ0 : Hid (w0.heap.size = w.heap.size + 1) := by show _ = _; rw [hw0]; simp
  have HDN : Hid (dn = K * m) := hdn
  have HMU : Hid (∀ i, i <= K -> i * m <= 1024) := fun i hi => mul_le16 hi (by omega) hm
  clear hdn
  go_enter Tryz.func80, Tryz.ntmps80
  go_wp2_with fail
  rw [<- hw0]
  have p0 := (L0.out w0 (Below.refl _ _)).cell (i := 0) rfl
  clear hw0
  go_wp2_with fail
  go_loopw [5, 11] (fun s x wr => ∃ i : Nat, i <= K /\ x = .int .i64 (i : Int) /\ ∃ ao c, s = .slice ao i c /\ Hid (wr.ownsRow w0.heap.size 36 1 (.slice ao i c) i (Cod.rowsOf i (fun i => some ⟨b, off + i * m, none⟩) (fun _ => m) (fun _ => m))) /\ Hid (Below w0.heap.size w0 wr)) (fun _ x _ => K - (intOf x).toNat)
  case atStart => exact ⟨0, Nat.zero_le _, rfl, none, 0, rfl, World.ownsRow_nil _ _ _ _, Below.refl _ _⟩
  case round =>
    obtain ⟨i, hi, rfl, ao, cp, rfl, hown, hbel⟩ := hrel
    by_cases hlt : i < K
    · have q2 := (L0.out wr hbel.out).cell (i := 2) rfl
      obtain ⟨p, hp⟩ : ∃ p, p = i * m := ⟨_, rfl⟩
      have hp1 : p + m = (i + 1) * m := by rw [hp, Nat.succ_mul]
      have hp2 : p + m <= dn := by rw [HDN.out, hp1]; exact Nat.mul_le_mul_right m hlt
      have hp3 : p + m <= 1024 := by rw [hp1]; exact HMU.out _ hlt
      obtain ⟨v1, v3⟩ := val_mul hp (by omega)
      obtain ⟨v2, v4⟩ := val_mul2 hp1 (by omega)
      have HP : Hid (p = i * m) := hp
      clear hp hp1
      go_wp2_with fail
      go_quiet (fail)
      obtain ⟨wd, hwd⟩ : ∃ wd, wd = wr.drewN nq := ⟨_, rfl⟩
      have bd : Below wr.heap.size wr wd := by rw [hwd]; exact below_drewN _ _ _
      rw [<- hwd]
      have HOW : Hid (wd.ownsRow w0.heap.size 36 1 (.slice ao i cp) i (Cod.rowsOf i (fun i => some ⟨b, off + i * m, none⟩) (fun _ => m) (fun _ => m))) := owns_below hown.out bd
      have HBD : Hid (Below w0.heap.size w0 wd) := bth hbel.out bd
      obtain ⟨xs, hxs⟩ : ∃ xs, xs = Cod.rowsOf i (fun i => some (⟨b, off + i * m, none⟩ : Addr)) (fun _ => m) (fun _ => m) := ⟨_, rfl⟩
      rw [<- hxs] at HOW
      have HX : Hid (xs ++ [.slice (some ⟨b, off + p, none⟩) m m] = Cod.rowsOf (i + 1) (fun i => some ⟨b, off + i * m, none⟩) (fun _ => m) (fun _ => m)) := by
        show _ = _
        unfold Cod.rowsOf at hxs ⊢
        rw [List.range_succ, List.map_append, List.map_cons, List.map_nil, hxs, HP.out]
      have i1 : (0 : Int) <= (p : Int) := by omega
      have i2 : (p : Int) <= (p : Int) + (m : Int) := by omega
      have i3 : (p : Int) + (m : Int) <= (dc : Int) := by omega
      have i4 : ¬ (p : Int) + (m : Int) < 0 := by omega
      clear hwd bd hxs hown v1 v2 v3 v4 q2
      go_wp2_with (at_builtin; refine wpList_append_lies _ (by rfl) (.tmp 23) (.tmp 29) 33 (by rfl) w0.heap.size 36 j0 (.slice none 0 0) 1 24 Tryz.underlying33 hj hj0 hj1 hj2 (by rfl) (by decide) (.slice ao i cp) i xs (by rfl) (owns_below HOW.out (bal _ _)) ⟨wd.heap.size, 0, none⟩ 1 1 [.slice (some ⟨b, off + p, none⟩) m m] (by simp [Act.eval]) (by rfl) (World.news_of_block (heap_alloc_new wd _)) (by simp [Value.oneCell']) (by decide) (by unfold maxLen; omega) (by omega) (by have := HBD.out.size; simp; omega) (wd.heap.size + 1) (by simp) ?_; intro g5 cap5 w5 hown5 hgrow5 _ _
                   have HO5 : Hid (w5.ownsRow w0.heap.size 36 1 (.slice (some ⟨g5, 0, none⟩) (i + 1) cap5) (i + 1) (Cod.rowsOf (i + 1) (fun i => some ⟨b, off + i * m, none⟩) (fun _ => m) (fun _ => m))) := by rw [<- HX.out]; exact hown5
                   have HB5 : Hid (Below w0.heap.size w0 w5) := (bth HBD.out (bal _ _)).grown hgrow5 (by have := HBD.out.size; simp; omega) (fun r hr => (HOW.out.lt r hr).1)
                   clear hown5 hgrow5)
      go_roundw
      case rel => exact ⟨i + 1, by omega, by go_num, _, cap5, rfl, HO5.out, HB5.out⟩
      case measure => simp [intOf]; omega
    · obtain rfl : i = K := by omega
      go_wp2_with fail
      go_ret
      exact ⟨ao, cp, rfl, owns_mono hown.out B0.out.size, bth B0.out hbel.out⟩
theorem step_append_row {w : World} {ops : Array Oper} {o : Oper} {a : Act} {K : Act -> World -> Prop} {Q : Exit -> Act -> World -> Prop} {E : Prop} (hgd : o.guard = none) (s x : Operand)
  (ho : o.op = .call { callee := .builtin .append, args := #[s, x], argTypes := #[33, 33] }) (base n r ca cx : Nat) (ao xo : Option Addr) (xs : List Value) (T : Nat -> Option Addr) (L U : Nat -> Nat)
  (hs : a.eval s = .slice ao n ca) (hx : a.eval x = .slice xo r cx) (hv : w.ownsRow base 36 1 (.slice ao n ca) n xs) (hl : ∃ B, w.ownsRow B 36 1 (.slice xo r cx) r (Cod.rowsOf r T L U)) (hn : n <= 1000) (hr : r <= 1000) (hB : base <= w.heap.size)
  (cont : ∀ ao' c' w', w'.ownsRow base 36 1 (.slice ao' (n + r) c') (n + r) (xs ++ Cod.rowsOf r T L U) -> w.grownBy w' (Value.slice ao n ca).ownBlock -> K (a.put o.dst (.slice ao' (n + r) c')) w') : if Region.wanted o (yielded ops a.tmps) = true then Oper.wp Tryz.prog o a w K Q else E := by
 have hw : Region.wanted o (yielded ops a.tmps) = true := by simp [Region.wanted, hgd]
 rw [if_pos hw]
 obtain ⟨j0, hj, hj0, hj1, hj2⟩ := info_parts Cod.info23c
 obtain ⟨B, hl⟩ := hl
 rcases hl.2 with ⟨h1, h2⟩ | ⟨g, cap, cur, h1, _⟩
 ·cases h1
  have hrun := run_append_owned_none (P := Tryz.prog) (w := w) base 33 o.type 36 j0 1 Tryz.underlying33 hj (.slice ao n ca) n xs hv
  have hc := cont ao ca w (by rw [show Cod.rowsOf 0 T L U = [] from rfl, List.append_nil]; exact hv) ⟨rfl, rfl, rfl, Nat.le_refl _, fun _ _ _ => rfl⟩
  unfold Oper.wp
  simp [execOp, ho, resolve, invoke, builtin, hs, hx, hrun, Result.andThen]
  exact hc
 ·cases h1
  refine wp_append_own w s x 33 ho base 36 j0 (.slice none 0 0) 1 24 Tryz.underlying33 hj hj0 hj1 hj2 rfl (by decide) (.slice ao n ca) n xs hs hv ⟨g, 0, none⟩ r cx (Cod.rowsOf r T L U) hx (by rw [Cod.rowsOf_length, Nat.mul_one]) (hl.cells (g := g) rfl) (Cod.rowsOf_one _ _ _ _) (by unfold maxLen; omega) (by omega) hB ?_
  intro v' w' h1 h2 _
  obtain ⟨ao', c', rfl⟩ := Cod.owns_form h1
  exact cont ao' c' w' h1 h2
theorem owns_grown {w w' : World} {B B' e s n cap k ca : Nat} {ao lo : Option Addr} {xs ys : List Value} (h : w.ownsRow B e s (.slice ao n cap) n xs) (hk : w.ownsRow B' 36 1 (.slice lo k ca) k ys) (he : e ≠ 36) (hg : w.grownBy w' (Value.slice lo k ca).ownBlock) : w'.ownsRow B e s (.slice ao n cap) n xs :=
 owns_blocks h fun a ha => by
  obtain ⟨_, hl, cur, hc⟩ := owns_at h ha
  refine hg.block _ hl fun e1 => ?_
  cases lo with
  | none => cases e1
  | some l =>
   obtain ⟨_, _, cur', hc'⟩ := owns_at hk rfl
   have e2 : a.block = l.block := by simpa [Value.ownBlock] using e1
   rw [e2, hc'] at hc
   cases hc
   exact he rfl
def dM (m : Nat) (D : Nat -> UInt8) : Cod.M := fun a b => toK (D (a * m + b))
def dH (K m : Nat) (D : Nat -> UInt8) (i j : Nat) : UInt8 := bK (Cod.enc K (dM m D) i j)
theorem dH_data {K m : Nat} {D : Nat -> UInt8} {i j : Nat} (hi : i < K) : dH K m D i j = D (i * m + j) := by
 unfold dH; rw [Cod.enc_data _ hi]; exact bK_toK _
def erD (E : Int) (n W : Nat) : Int := if E = 0 then (if n = W then 0 else 20) else E
def AnsL (w : World) (E : Int) (m N : Nat) (Lc os : Nat -> Nat) (nu : Int) (n : Nat) (G : Nat -> Nat -> UInt8) (e : Ending) (w' : World) : Prop :=
  ∃ ao cap T U, e = .returned (.tuple #[.slice ao (lenE E m) cap, .int .i64 E]) /\ (E = 0 -> PL w.heap.size w' ao m cap N Lc os nu n T U G) /\ Below w.heap.size w w'
theorem bec_cut {w : World} {b off n cap : Nat} {D : Nat -> UInt8} (h : Bec w (some ⟨b, off, none⟩) n cap D) {p m : Nat} (hp : p + m <= n) (hn : 0 < n) : Bec w (some ⟨b, off + p, none⟩) m m (fun j => D (p + j)) := by
 refine ⟨fun hm => ⟨b, off + p, rfl, fun j hj => ?_⟩, (fun e => by cases e), Nat.le_refl _⟩
 obtain ⟨b', off', e, hc⟩ := h.rd hn
 cases e
 have := hc (p + j) (by omega)
 rw [Nat.add_assoc]; exact this
def mT (z : Nat -> Sl) (T : Nat -> Option Addr) (d i : Nat) : Option Addr := if i < d /\ (z i).ce ≠ 0 then none else T i
def mL (z : Nat -> Sl) (m : Nat -> Nat) (d i : Nat) : Nat := if i < d /\ (z i).ce ≠ 0 then 0 else m i
theorem rows_set {N d : Nat} (T : Nat -> Option Addr) (L U : Nat -> Nat) (a : Option Addr) (l u : Nat) : (Cod.rowsOf N T L U).set d (.slice a l u) = Cod.rowsOf N (Cod.put d a T) (Cod.put d l L) (Cod.put d u U) := by
 apply List.ext_getElem?
 intro i
 rw [List.getElem?_set]
 by_cases hi : i < N
 ·rw [Cod.rowsOf_get N (Cod.put d a T) _ _ i hi]
  by_cases e : d = i
  ·subst e; rw [if_pos rfl, if_pos (by rw [Cod.rowsOf_length]; exact hi), Cod.put_at, Cod.put_at, Cod.put_at]
  ·rw [if_neg e, Cod.rowsOf_get _ _ _ _ _ hi, Cod.put_ne _ _ (fun h => e h.symm), Cod.put_ne _ _ (fun h => e h.symm), Cod.put_ne _ _ (fun h => e h.symm)]
 ·have h1 : (Cod.rowsOf N (Cod.put d a T) (Cod.put d l L) (Cod.put d u U))[i]? = none := List.getElem?_eq_none (by rw [Cod.rowsOf_length]; omega)
  rw [h1]
  by_cases e : d = i
  ·subst e; rw [if_pos rfl, if_neg (by rw [Cod.rowsOf_length]; exact hi)]
  ·rw [if_neg e, List.getElem?_eq_none (by rw [Cod.rowsOf_length]; omega)]
theorem mT_take {z : Nat -> Sl} {d : Nat} (h : (z d).ce ≠ 0) (T : Nat -> Option Addr) : Cod.put d none (mT z T d) = mT z T (d + 1) := by
 funext i
 unfold mT
 by_cases e : i = d
 ·subst e; rw [Cod.put_at, if_pos ⟨by omega, h⟩]
 ·rw [Cod.put_ne _ _ e]
  by_cases g : i < d /\ (z i).ce ≠ 0
  ·rw [if_pos g, if_pos ⟨by omega, g.2⟩]
  ·rw [if_neg g, if_neg (fun a => g ⟨by omega, a.2⟩)]
theorem mL_take {z : Nat -> Sl} {d : Nat} (h : (z d).ce ≠ 0) (m : Nat -> Nat) : Cod.put d 0 (mL z m d) = mL z m (d + 1) := by
 funext i
 unfold mL
 by_cases e : i = d
 ·subst e; rw [Cod.put_at, if_pos ⟨by omega, h⟩]
 ·rw [Cod.put_ne _ _ e]
  by_cases g : i < d /\ (z i).ce ≠ 0
  ·rw [if_pos g, if_pos ⟨by omega, g.2⟩]
  ·rw [if_neg g, if_neg (fun a => g ⟨by omega, a.2⟩)]
theorem mskip {α : Type} {z : Nat -> Sl} {d : Nat} (h : (z d).ce = 0) (x : α) (f : Nat -> α) (i : Nat) : (if i < d /\ (z i).ce ≠ 0 then x else f i) = if i < d + 1 /\ (z i).ce ≠ 0 then x else f i := by
 by_cases g : i < d /\ (z i).ce ≠ 0
 ·rw [if_pos g, if_pos ⟨by omega, g.2⟩]
 ·rw [if_neg g, if_neg (fun a => g ⟨by
   have : i ≠ d := fun e => a.2 (by rw [e]; exact h)
   omega, a.2⟩)]
theorem m_skip {z : Nat -> Sl} {d : Nat} (h : (z d).ce = 0) (T : Nat -> Option Addr) (m : Nat -> Nat) : mT z T d = mT z T (d + 1) /\ mL z m d = mL z m (d + 1) := by
 constructor
 all_goals funext i
 ·unfold mT
  exact mskip h _ _ i
 ·unfold mL
  exact mskip h _ _ i
def Mnl (wz : World) (gc gl N cap : Nat) (z : Nat -> Sl) (T : Nat -> Option Addr) (m U : Nat -> Nat) (d : Nat) (v : World) (Y : Nat -> Prop) : Prop :=
  At wz v gc #[.slice (some ⟨gl, 0, none⟩) N cap] 33 /\ v.ownsRow wz.heap.size 36 1 (.slice (some ⟨gl, 0, none⟩) N cap) N (Cod.rowsOf N (mT z T d) (mL z m d) (mL z U d)) /\ ∀ g, Y g ↔ g = gl
theorem mend1_any (wz v : World) (gc gl N cap d : Nat) (hd : d < N) (z : Nat -> Sl) (T : Nat -> Option Addr) (m U : Nat -> Nat) (Y : Nat -> Prop) (x0 x1 : Value) (ao : Option Addr) (ca : Nat) (bo : Option Addr) (cb : Nat) (h : Mnl wz gc gl N cap z T m U d v Y) :
  Calls Tryz.prog 87 #[.int .i64 (d : Int), .agg #[x0, x1], slv (z d) ao ca bo cb, .pointer (some ⟨gc, 0, none⟩)] v fun e v' => e = .returned (.tuple #[]) /\ ∃ Y', Mnl wz gc gl N cap z T m U (d + 1) v' Y' /\ Only Y v v' /\ ∀ g, Y' g -> Y g \/ v.heap.size <= g := by
 unfold slv
 obtain ⟨hA, hO, hY⟩ := h
 obtain ⟨v0, hv0⟩ : ∃ v0, v0 = v.alloc (.cells #[x0, x1] 97) := ⟨_, rfl⟩
 obtain ⟨v1, hv1⟩ : ∃ v1, v1 = v0.alloc (.cells #[.int .u8 (((z d).kd.toNat : Nat) : Int), .int .i64 (z d).ix, .int .i64 (z d).ce, .int .i64 (z d).st, .slice ao (z d).vn ca, .slice bo (z d).dn cb] 107) := ⟨_, rfl⟩
 have b1 : Below v.heap.size v v1 := by rw [hv1, hv0]; exact bth (bal _ _) (bal _ _)
 have i1 : (0 : Int) <= (d : Int) := by omega
 have i2 : (d : Int) < (N : Int) := by omega
 by_cases hz : (z d).ce = 0
 ·have hzb : ((z d).ce != 0) = false := by simp [hz]
  have HC : Hid (Mnl wz gc gl N cap z T m U (d + 1) v1 Y) := by
   refine ⟨hA.below b1, ?_, hY⟩
   rw [<- (m_skip hz T m).1, <- (m_skip hz T m).2, <- (m_skip hz T U).2]
   exact owns_below hO b1
  clear hz hA hO
  go_enter Tryz.func87, Tryz.ntmps87
  go_wp2_with fail
  rw [<- hv0, <- hv1]
  exact bodyPost_end (results_none rfl _ _ _) rfl ⟨rfl, Y, HC.out, .of_below b1, fun g hg => .inl hg⟩
 ·have hzb : ((z d).ce != 0) = true := by simp [hz]
  have hO1 := owns_below hO b1
  have hs := World.ownsRow.stored hO1 d (.slice none 0 0)
  rw [rows_set, mT_take hz, mL_take hz, mL_take hz] at hs
  have hne : gc ≠ gl := fun e => by
   obtain ⟨_, _, cur, hc⟩ := owns_at hO (a := ⟨gl, 0, none⟩) rfl
   have := hA.2
   rw [e] at this
   simp only at hc
   rw [hc] at this
   cases this
  have HC : Hid (Mnl wz gc gl N cap z T m U (d + 1) (v1.setCell ⟨gl, d, none⟩ (.slice none 0 0)) Y) := ⟨(hA.below b1).far hne d _, hs.1, hY⟩
  have HO : Hid (Only Y v (v1.setCell ⟨gl, d, none⟩ (.slice none 0 0))) := (Only.of_below b1).setCell ((hY gl).2 rfl) _
  have g0 := fun o o' => ((hA.alloc o).alloc o').cell (i := 0) rfl
  have hcl : v1.cell? ⟨gl, d, none⟩ = some (.slice (mT z T d d) (mL z m d d) (mL z U d d)) := by
   rw [World.ownsRow.cellAt hO1 d (by omega), Cod.rowsOf_get _ _ _ _ _ hd]
  have hfr : v1.frozen? ⟨gl, d, none⟩ = false := World.ownsRow.frozenAt hO1 d
  rw [hv1, hv0] at hcl hfr
  clear hz hA hO hs hO1 hne hY
  go_enter Tryz.func87, Tryz.ntmps87
  go_wp2_with fail
  rw [<- hv0, <- hv1]
  exact bodyPost_end (results_none rfl _ _ _) rfl ⟨rfl, Y, HC.out, HO.out, fun g hg => .inl hg⟩
end Go.Proofs.YtemlojjkokooeaaGreat
