import Derived.Test.YtngcdlodcdgcaaaGreatZk10
import Derived.Test.YtngcdlodcdgcaaaGreatZk53
namespace Go.Proofs.YtngcdlodcdgcaaaGreat.Dr
open Go.RowKit
structure Slt (w : World) (lo : Option Addr) (n cl : Nat) (A : Nat -> Option Addr) (C : Nat -> Nat) (F : Nat -> List UInt8) : Prop where
  lst : Im.Lst w lo n A C F
  fit : n <= cl
  room : ∀ i, i < n -> (F i).length <= C i
theorem Slt.below {w w' : World} {lo : Option Addr} {n cl : Nat} {A : Nat -> Option Addr} {C : Nat -> Nat} {F : Nat -> List UInt8} (h : Slt w lo n cl A C F) (hb : Below w.heap.size w w') : Slt w' lo n cl A C F := ⟨h.lst.below hb, h.fit, h.room⟩
structure Env (k r c q : Int) (n : Nat) (F : Nat -> List UInt8) (X : Int) (M : Nat) (mv : Int) (BE : Int -> Int) (BB : Int -> List UInt8) (SE : Int -> Int) (SL : Int -> List Li) : Prop where
  good : X = 0 -> PP k r c q M 0
  bok : ∀ o, BE o = 0 -> X = 0
  sok : ∀ o, SE o = 0 -> X = 0
  bnil : ∀ o, BE o ≠ 0 -> BB o = []
  blen : ∀ o, (BB o).length <= 32768
  snil : ∀ o, SE o ≠ 0 -> SL o = []
  slen : ∀ o, (SL o).length <= 5000
  spos : ∀ o, SE o = 0 -> 1 <= (SL o).length
  ver : ∀ o x, x ∈ SL o -> x.2.1 = 2 -> x.2.2 <= mv
  mvn : 0 <= mv /\ mv <= 1073741824
  chk : ∀ w lo cl A C, Slt w lo n cl A C F -> Calls Tryz.prog 24 #[.agg #[.int .i64 k, .int .i64 r, .int .i64 c, .int .i64 q, .slice lo n cl]] w fun e w' => e = .returned (.int .i64 X) /\ Below w.heap.size w w'
  nxt : ∀ w lo cl A C, Slt w lo n cl A C F -> Calls Tryz.prog 10 #[.agg #[.int .i64 k, .int .i64 r, .int .i64 c, .int .i64 q, .slice lo n cl]] w fun e w' => e = .returned (.tuple #[.int .i64 (if X = 0 then mv + 1 else 0), .int .i64 X]) /\ Below w.heap.size w w'
  bts : ∀ o w lo cl A C, Slt w lo n cl A C F -> Calls Tryz.prog 33 #[.agg #[.int .i64 k, .int .i64 r, .int .i64 c, .int .i64 q, .slice lo n cl], .int .i64 o] w (AnsY w (BE o) (BB o))
  sts : ∀ o w lo cl A C, Slt w lo n cl A C F -> Calls Tryz.prog 13 #[.agg #[.int .i64 k, .int .i64 r, .int .i64 c, .int .i64 q, .slice lo n cl], .int .i64 o] w (AnsL w (SE o) (SL o))
def lsB (n : Nat) (F : Nat -> UInt8) : List UInt8 := (List.range n).map F
theorem lsB_length (n : Nat) (F : Nat -> UInt8) : (lsB n F).length = n := by simp [lsB]
theorem bvl_lsB (n : Nat) (F : Nat -> UInt8) : bvl (lsB n F) = byF n F := by simp [bvl, lsB, byF]
theorem ansY_of {w : World} {E : Int} {n : Nat} {F : Nat -> UInt8} {e : Ending} {w' : World} (h : AnsB w E n F e w') : AnsY w E (lsB (lenE E n) F) e w' := by
 obtain ⟨ao, cap, rfl, ho, hb⟩ := h
 refine ⟨ao, cap, ?_, ?_, hb⟩
 ·rw [lsB_length]
 ·unfold OwB; rw [lsB_length, bvl_lsB]; exact ho
def lsV (n : Nat) (a v : Nat -> Int) : List Li := (List.range n).map fun i => (a i, if i = 0 then 2 else 1, v i)
theorem lsV_length (n : Nat) (a v : Nat -> Int) : (lsV n a v).length = n := by simp [lsV]
theorem lvl_lsV (a v : Nat -> Int) : ∀ n, lvl (lsV n a v) = lvv a v n
 | 0 => rfl
 | n + 1 => by
  have e : lsV (n + 1) a v = lsV n a v ++ [(a n, if n = 0 then 2 else 1, v n)] := by unfold lsV; rw [List.range_succ, List.map_append]; rfl
  rw [e, lvl_append, lvl_lsV a v n, lvv]
  congr 1
  by_cases h : n = 0
  ·subst h; rfl
  ·simp [lvl, h]
theorem ansL_of {w : World} {E : Int} {n : Nat} {a v : Nat -> Int} {e : Ending} {w' : World} (h : AnsLv w E n a v e w') : AnsL w E (lsV (lenE E n) a v) e w' := by
 obtain ⟨ao, cap, rfl, ho, hb⟩ := h
 refine ⟨ao, cap, ?_, ?_, hb⟩
 ·rw [lsV_length]
 ·unfold OwL; rw [lsV_length, lvl_lsV]; exact ho
theorem env_ex (k r c q : Int) (n : Nat) (F : Nat -> List UInt8) : ∃ X M mv BE BB SE SL, Env k r c q n F X M mv BE BB SE SL := by
 by_cases hck : ∃ N Q S, Im.Ck k r c q n F 0 N Q S
 ·obtain ⟨N, Q, S, hck⟩ := hck
  obtain ⟨W, hp⟩ := ck_par hck
  obtain ⟨hPm, hn, hF⟩ := hck.ok rfl
  have each : ∀ o : Int, ∃ p : Int × List UInt8 × Int × List Li, (p.1 ≠ 0 -> p.2.1 = []) /\ p.2.1.length <= 32768 /\ (p.2.2.1 ≠ 0 -> p.2.2.2 = []) /\ p.2.2.2.length <= 5000 /\ (p.2.2.1 = 0 -> 1 <= p.2.2.2.length) /\ (∀ x, x ∈ p.2.2.2 -> x.2.1 = 2 -> x.2.2 <= mx (vIn N c Q F) n) /\
    (∀ w lo cl A C, Slt w lo n cl A C F -> Calls Tryz.prog 33 #[.agg #[.int .i64 k, .int .i64 r, .int .i64 c, .int .i64 q, .slice lo n cl], .int .i64 o] w (AnsY w p.1 p.2.1)) /\
    (∀ w lo cl A C, Slt w lo n cl A C F -> Calls Tryz.prog 13 #[.agg #[.int .i64 k, .int .i64 r, .int .i64 c, .int .i64 q, .slice lo n cl], .int .i64 o] w (AnsL w p.2.2.1 p.2.2.2)) := by
   intro o
   obtain ⟨E, A', D, M, R, V, y, l, s, SR, SV, hO⟩ := ob_ex k r c q n F o
   by_cases hE : E = 0
   ·subst hE
    obtain ⟨N', W', Q', S', hp', hck', ho, hq', hA1, hA2, hA3, hs⟩ := ob_get hO
    obtain ⟨_, _, _, _, hl1, hs1⟩ := ob_good hO
    have hb := fun (w : World) lo cl A C (hl : Slt w lo n cl A C F) => (Bytes_ob hO hp' hck' hA1 hs hA3 w lo cl hl.fit A C hl.lst)
    have hy : y <= mx (vIn N c Q F) n := by
     rcases hO with ⟨h0, _⟩ | ⟨N1, W1, Q1, S1, hp1, hck1, ho1, ⟨_, _, _, _, _, hy1⟩, _⟩
     ·exact absurd rfl h0
     ·obtain ⟨⟨_, a1, a2, _⟩, hn1, _⟩ := hck1.ok rfl
      obtain ⟨_, b1, b2, _⟩ := hPm
      obtain rfl : N1 = N := by omega
      obtain rfl : Q1 = Q := by omega
      rw [hy1]
      exact dV_le (by omega) hn1
    refine ⟨(_, lsB _ _, 0, lsV (l + s + 1) (lvA o l R SR) (lvA y l V SV)), ?_, ?_, fun h => absurd rfl h, ?_, fun _ => ?_, ?_, fun w lo cl A C hl => (hb w lo cl A C hl).mono fun e w' h => ansY_of h, fun w lo cl A C hl => ?_⟩
    ·intro h
     show lsB (lenE _ _) _ = []
     rw [lenE_ne _ h]; rfl
    ·show (lsB (lenE _ _) _).length <= 32768
     rw [lsB_length]
     unfold lenE
     have := mst_le W'
     split <;> omega
    ·show (lsV _ _ _).length <= 5000
     rw [lsV_length]; omega
    ·show 1 <= (lsV _ _ _).length
     rw [lsV_length]; omega
    ·intro x hx h2
     obtain ⟨i, _, rfl⟩ := List.mem_map.1 hx
     by_cases h0 : i = 0
     ·subst h0; exact hy
     ·exfalso
      have : (if i = 0 then 2 else 1 : Nat) = 2 := h2
      rw [if_neg h0] at this; omega
    ·refine (Stripes_tr hO w lo cl hl.fit A C hl.lst).mono fun e w' h => ?_
     have := ansL_of h
     rw [lenE_zero] at this
     exact this
   ·refine ⟨(E, [], E, []), fun _ => rfl, Nat.zero_le _, fun _ => rfl, Nat.zero_le _, fun h => absurd h hE, (fun x hx => by cases hx), fun w lo cl A C hl => ?_, fun w lo cl A C hl => ?_⟩
    ·refine (Bytes_bad w lo n cl o E A' D y hE M l s R V SR SV (fun u hu => Object_any hO u lo cl hl.fit A C (hl.lst.below hu)) 0 (fun _ => 0)).mono fun e w' h => ?_
     have := ansY_of h
     rw [lenE_ne _ hE] at this
     exact this
    ·refine (Stripes_tr hO w lo cl hl.fit A C hl.lst).mono fun e w' h => ?_
     have := ansL_of h
     rw [lenE_ne _ hE] at this
     exact this
  obtain ⟨f, hf⟩ := Classical.axiomOfChoice each
  refine ⟨0, mst W, mx (vIn N c Q F) n, fun o => (f o).1, fun o => (f o).2.1, fun o => (f o).2.2.1, fun o => (f o).2.2.2, ?_⟩
  have hbd := hPm.bounds
  have hPm' := hPm
  obtain ⟨_, hN1, hQ1, hS1⟩ := hPm'
  have hchk : ∀ w lo cl A C, Slt w lo n cl A C F -> Calls Tryz.prog 24 #[.agg #[.int .i64 k, .int .i64 r, .int .i64 c, .int .i64 q, .slice lo n cl]] w fun e w' => e = .returned (.int .i64 0) /\ Below w.heap.size w w' := fun w lo cl A C hl => Check_img hck lo cl A C w hl.lst
  have hsz : S = sz N c := by
   have hc := (may_true hPm.1)
   unfold sz; omega
  refine { good := fun _ => pp_par hp, bok := fun _ _ => rfl, sok := fun _ _ => rfl, bnil := fun o => (hf o).1, blen := fun o => (hf o).2.1, snil := fun o => (hf o).2.2.1, slen := fun o => (hf o).2.2.2.1, spos := fun o => (hf o).2.2.2.2.1, ver := fun o => (hf o).2.2.2.2.2.1, mvn := ⟨mx_nn _ _, mx_le (by omega) (fun i => (vIn_bd N c Q F i).2) _⟩, chk := hchk, nxt := fun w lo cl A C hl => ?_, bts := fun o => (hf o).2.2.2.2.2.2.1, sts := fun o => (hf o).2.2.2.2.2.2.2 }
  rw [if_pos rfl]
  refine Next_good w lo n cl (by omega) (vIn N c Q F) (fun i => vIn_bd N c Q F i) (fun u hu => hchk u lo cl A C (hl.below hu)) (fun i hi u hu => ?_)
  have hl' := hl.below hu
  exact versionIn_any hp hQ1 (by omega) (by omega) u lo cl A C hl'.lst hl'.room (fun i hi => by rw [<- hsz]; exact hF i hi) i hi (by omega)
 ·obtain ⟨x, N, Q, S, hx⟩ := Im.ck_ex k r c q n F
  have hx0 : x ≠ 0 := fun e => hck ⟨N, Q, S, by rw [<- e]; exact hx⟩
  have each : ∀ o : Int, ∃ p : Int × Int, p.1 ≠ 0 /\ p.2 ≠ 0 /\
    (∀ w lo cl A C, Slt w lo n cl A C F -> Calls Tryz.prog 33 #[.agg #[.int .i64 k, .int .i64 r, .int .i64 c, .int .i64 q, .slice lo n cl], .int .i64 o] w (AnsY w p.1 [])) /\
    (∀ w lo cl A C, Slt w lo n cl A C F -> Calls Tryz.prog 13 #[.agg #[.int .i64 k, .int .i64 r, .int .i64 c, .int .i64 q, .slice lo n cl], .int .i64 o] w (AnsL w p.2 [])) := by
   intro o
   obtain ⟨E, A', D, M, R, V, y, l, s, SR, SV, hO⟩ := ob_ex k r c q n F o
   have hE : E ≠ 0 := fun e => by
    subst e
    obtain ⟨N', W', Q', S', _, hck', _⟩ := ob_get hO
    exact hck ⟨N', Q', S', hck'⟩
   refine ⟨(E, E), hE, hE, fun w lo cl A C hl => ?_, fun w lo cl A C hl => ?_⟩
   ·refine (Bytes_bad w lo n cl o E A' D y hE M l s R V SR SV (fun u hu => Object_any hO u lo cl hl.fit A C (hl.lst.below hu)) 0 (fun _ => 0)).mono fun e w' h => ?_
    have := ansY_of h
    rw [lenE_ne _ hE] at this
    exact this
   ·refine (Stripes_tr hO w lo cl hl.fit A C hl.lst).mono fun e w' h => ?_
    have := ansL_of h
    rw [lenE_ne _ hE] at this
    exact this
  obtain ⟨f, hf⟩ := Classical.axiomOfChoice each
  have hchk : ∀ w lo cl A C, Slt w lo n cl A C F -> Calls Tryz.prog 24 #[.agg #[.int .i64 k, .int .i64 r, .int .i64 c, .int .i64 q, .slice lo n cl]] w fun e w' => e = .returned (.int .i64 x) /\ Below w.heap.size w w' := fun w lo cl A C hl => Check_img hx lo cl A C w hl.lst
  refine ⟨x, 0, 0, fun o => (f o).1, fun _ => [], fun o => (f o).2, fun _ => [], ?_⟩
  refine { good := fun e => absurd e hx0, bok := fun o e => absurd e (hf o).1, sok := fun o e => absurd e (hf o).2.1, bnil := fun _ _ => rfl, blen := fun _ => Nat.zero_le _, snil := fun _ _ => rfl, slen := fun _ => Nat.zero_le _, spos := fun o e => absurd e (hf o).2.1, ver := fun o y hy => (by cases hy), mvn := ⟨Int.le_refl _, by omega⟩, chk := hchk, nxt := fun w lo cl A C hl => ?_, bts := fun o => (hf o).2.2.1, sts := fun o => (hf o).2.2.2 }
  rw [if_neg hx0]
  exact Next_bad x hx0 w lo n cl (fun u hu => hchk u lo cl A C (hl.below hu))
end Go.Proofs.YtngcdlodcdgcaaaGreat.Dr
namespace Go.Proofs.YtngcdlodcdgcaaaGreat.Dr
open Go.RowKit Go.Lib Go.Sort
set_option maxHeartbeats 4000000 in
set_option maxRecDepth 100000 in
theorem LRows_core {k r c q : Int} (w : World) (lo : Option Addr) (n cl : Nat) (l : List Li) (m : Nat) (hm0 : m = l.length) (a : Nat -> Int) (ha0 : a = gA l) (hm1 : 1 <= m) (hm : m <= 1000000000000)
  (HA : Hid (∀ u, RowKit.Below w.heap.size w u -> Calls Tryz.prog 7 #[.agg #[.int .i64 k, .int .i64 r, .int .i64 c, .int .i64 q, .slice lo n cl]] u (AnsL u 0 l))) :
  Calls Tryz.prog 8 #[.agg #[.int .i64 k, .int .i64 r, .int .i64 c, .int .i64 q, .slice lo n cl]] w fun e w' => ∃ ao cap, e = .returned (.tuple #[.slice ao (mts a m).length cap, .int .i64 0]) /\ RdL w' ao (mts a m) /\ RowKit.Below w.heap.size w w' := by
 unfold AnsL at HA
 obtain ⟨w0, hw0⟩ : ∃ w0, w0 = w.alloc (.cells #[.int .i64 k, .int .i64 r, .int .i64 c, .int .i64 q, .slice lo n cl] 26) := ⟨_, rfl⟩
 have b0 : RowKit.Below w.heap.size w w0 := by rw [hw0]; exact below_alloc _ _
 go_enter Tryz.func8, Tryz.ntmps8
 go_wp2_with fail
 rw [<- hw0]
 refine (HA.out _ b0).mono ?_
 rintro e wa ⟨po, pc, rfl, hp0, ha⟩
 have hp := hp0.rel
 clear hp0
 have HM0 : Hid (m = l.length) := hm0
 have HA0 : Hid (a = gA l) := ha0
 rw [<- hm0]
 have hmk := run_make_row' (P := Tryz.prog) 33 3 (.int .i64 0) 8 Tryz.underlying33 info3 rfl .i64 .i64 m (by omega) (by omega) wa
 obtain ⟨wz, hwz⟩ : ∃ wz, wz = wa.alloc (.cells (madeCells #[.int .i64 0] m) 3) := ⟨_, rfl⟩
 have HBZ : Hid (RowKit.Below wa.heap.size wa wz) := by rw [hwz]; exact below_alloc _ _
 have HR0 : Hid (wz.rowIs wa.heap.size 3 m (rup a 0)) := by
  rw [hwz]
  exact (World.rowIs_made wa (.int .i64 0) m 3).congr fun i _ => by unfold rup; rw [if_neg (Nat.not_lt_zero i)]
 rw [<- hwz] at hmk
 have HP : Hid (Rel wa po l pc) := hp
 have HWA : Hid (RowKit.Below w.heap.size w wa) := below_then b0 ha
 clear hp hwz hw0 HA b0 ha hm0 ha0
 go_wp2_with fail
 go_loopw [7, 8, 22] (fun _ _ y wr => ∃ i : Nat, i <= m /\ y = .int .i64 (i : Int) /\ Hid (wr.rowIs wa.heap.size 3 m (rup a i)) /\ Hid (RowKit.Below wa.heap.size wa wr)) (fun _ _ y _ => m - (intOf y).toNat)
 case atStart => exact ⟨0, Nat.zero_le _, rfl, HR0.out, HBZ.out⟩
 case round =>
  obtain ⟨i, hi, rfl, hr, hb⟩ := hrel
  by_cases hlt : i < m
  ·obtain ⟨g, off, rfl, hc⟩ := (HP.out.below hb.out).at_ (by have := HM0.out; omega)
   obtain ⟨k0, k1, k2⟩ := hc i (by have := HM0.out; omega)
   rw [<- HA0.out] at k0
   obtain ⟨y, hy⟩ : ∃ y, y = a i := ⟨_, rfl⟩
   obtain ⟨kd, hkd⟩ : ∃ kd : Int, kd = (gK l i : Int) := ⟨_, rfl⟩
   obtain ⟨vd, hvd⟩ : ∃ vd : Int, vd = gV l i := ⟨_, rfl⟩
   have HY : Hid (y = a i) := hy
   rw [<- hy] at k0
   rw [<- hkd] at k1
   rw [<- hvd] at k2
   have cc : ∀ o, (wr.alloc o).cell? ⟨wa.heap.size, i, none⟩ = some (rup a i i) := fun o => held (hr.out.cell hlt) (below_alloc _ _)
   have cf : ∀ o, (wr.alloc o).frozen? ⟨wa.heap.size, i, none⟩ = false := fun o => Im.free_below (hr.out.frozen i) (below_alloc _ _) hr.out.lt
   have i1 : (0 : Int) <= (i : Int) := by omega
   have i2 : (i : Int) < (m : Int) := by omega
   clear hc hy hkd hvd
   go_wp2_with fail
   go_roundw
   case rel =>
    refine ⟨i + 1, by omega, by go_num, ?_, (hb.out.alloc hb.out.size _).setCell (Nat.le_refl _) _⟩
    have h1 := (hr.out.of_block (RowKit.Below.heap_alloc wr (.cells #[.int .i64 y, .int .u8 kd, .int .i64 vd] 45) _ hr.out.lt)).set i (.int .i64 y)
    refine h1.congr fun j _ => ?_
    unfold rup
    by_cases e : j = i
    ·subst e; rw [if_pos rfl, if_pos (by omega), HY.out]
    ·rw [if_neg e]
     by_cases g : j < i
     ·rw [if_pos g, if_pos (by omega)]
     ·rw [if_neg g, if_neg (by omega)]
   case measure => simp [intOf]; omega
  ·obtain rfl : i = m := by omega
   have HH : Hid (Holds (Value.int .i64) wr wa.heap.size 0 (rwl a i).toArray) := fun j hj => by
    have hj2 : j < i := by simpa [rwl_length] using hj
    rw [Nat.zero_add]
    refine ⟨?_, hr.out.frozen j⟩
    rw [hr.out.cell hj2]
    unfold rup
    rw [if_pos hj2, getElem!_pos _ j hj]
    simp [rwl]
   obtain ⟨zs, hzs⟩ : ∃ zs, zs = rwl a i := ⟨_, rfl⟩
   have HZS : Hid (zs = rwl a i) := hzs
   have hzl : zs.length = i := by rw [hzs, rwl_length]
   rw [<- hzs] at HH
   have HSO := Im.slices_Sort_int wa.heap.size 0 i zs wr HH.out hr.out.lt (by omega)
   rw [hzl] at HSO
   have HLT : Hid (wa.heap.size < wr.heap.size) := hr.out.lt
   clear hzs
   go_wp2_with fail
   refine HSO.mono ?_
   rintro e w2 ⟨rfl, nn, os, rfl⟩
   have hsl : (zs.mergeSort fun x y => decide (x <= y)).length = i := by rw [List.length_mergeSort, hzl]
   have hH2 : Holds (Value.int .i64) (grow (putRow (Value.int .i64) (Sort.ahead wr nn) wa.heap.size 0 (zs.mergeSort fun x y => decide (x <= y)).toArray) os) wa.heap.size 0 (zs.mergeSort fun x y => decide (x <= y)).toArray :=
    holds_grow _ _ os _ 0 _ (by simpa [putRow, mapBlock, Sort.ahead] using HLT.out) (holds_putRow _ _ _ 0 _ _ (holds_ahead _ wr nn _ 0 _ HH.out) (by simp))
   have HCO := Im.slices_Compact_int wa.heap.size 0 i (zs.mergeSort fun x y => decide (x <= y)) _ hH2 (by omega) (by omega)
   rw [hsl] at HCO
   have HEN : Hid (∀ q, _ /\ _) := fun q => rows_end (q := q) (nn := nn) (os := os) hzl HH.out HLT.out hb.out
   have HMT : Hid (Lib.compact (zs.mergeSort fun x y => decide (x <= y)) = mts a i) := by show _ = _; rw [HZS.out]; rfl
   obtain ⟨wy, hwy⟩ : ∃ wy, wy = grow (putRow (Value.int .i64) (Sort.ahead wr nn) wa.heap.size 0 (zs.mergeSort fun x y => decide (x <= y)).toArray) os := ⟨_, rfl⟩
   rw [<- hwy] at HCO HEN
   rw [<- hwy]
   rw [HMT.out] at HCO HEN
   obtain ⟨M, hM⟩ : ∃ M, M = mts a i := ⟨_, rfl⟩
   rw [<- hM] at HCO HEN
   have HM : Hid (M = mts a i) := hM
   clear hwy hH2 HSO hsl hM
   go_wp2_with fail
   refine HCO.mono ?_
   rintro e w3 ⟨rfl, q, hw3⟩
   have HE := HEN.out q
   rw [<- hw3] at HE
   clear hw3 HCO
   go_wp2_with fail
   go_ret2
   rw [<- HM.out]
   exact ⟨_, _, rfl, HE.1, below_then HWA.out HE.2⟩
theorem LRows_good {k r c q : Int} (w : World) (lo : Option Addr) (n cl : Nat) (l : List Li) (hm1 : 1 <= l.length) (hm : l.length <= 1000000000000)
  (HA : Hid (∀ u, RowKit.Below w.heap.size w u -> Calls Tryz.prog 7 #[.agg #[.int .i64 k, .int .i64 r, .int .i64 c, .int .i64 q, .slice lo n cl]] u (AnsL u 0 l))) :
  Calls Tryz.prog 8 #[.agg #[.int .i64 k, .int .i64 r, .int .i64 c, .int .i64 q, .slice lo n cl]] w fun e w' => ∃ ao cap, e = .returned (.tuple #[.slice ao (mts (gA l) l.length).length cap, .int .i64 0]) /\ RdL w' ao (mts (gA l) l.length) /\ RowKit.Below w.heap.size w w' :=
 LRows_core w lo n cl l _ rfl _ rfl hm1 hm HA
set_option maxHeartbeats 1000000 in
set_option maxRecDepth 100000 in
theorem LRows_bad {k r c q : Int} (w : World) (lo : Option Addr) (n cl : Nat) (E : Int) (hE : E ≠ 0)
  (HA : Hid (∀ u, RowKit.Below w.heap.size w u -> Calls Tryz.prog 7 #[.agg #[.int .i64 k, .int .i64 r, .int .i64 c, .int .i64 q, .slice lo n cl]] u (AnsL u E []))) :
  Calls Tryz.prog 8 #[.agg #[.int .i64 k, .int .i64 r, .int .i64 c, .int .i64 q, .slice lo n cl]] w fun e w' => e = .returned (.tuple #[.slice none 0 0, .int .i64 E]) /\ RowKit.Below w.heap.size w w' := by
 have hz : (E != 0) = true := by simpa using hE
 unfold AnsL at HA
 clear hE
 obtain ⟨w0, hw0⟩ : ∃ w0, w0 = w.alloc (.cells #[.int .i64 k, .int .i64 r, .int .i64 c, .int .i64 q, .slice lo n cl] 26) := ⟨_, rfl⟩
 have b0 : RowKit.Below w.heap.size w w0 := by rw [hw0]; exact below_alloc _ _
 go_enter Tryz.func8, Tryz.ntmps8
 go_wp2_with fail
 rw [<- hw0]
 refine (HA.out _ b0).mono ?_
 rintro e wa ⟨ao, cp, rfl, _, ha⟩
 clear hw0 HA
 go_wp2_with fail
 go_ret2
 exact ⟨rfl, below_then b0 ha⟩
end Go.Proofs.YtngcdlodcdgcaaaGreat.Dr
namespace Go.Proofs.YtngcdlodcdgcaaaGreat.Dr
open Go.RowKit Go.Sort
def dEr (bE : Int) (bL : List Int) (eF : Int -> Int) : Int := if bE = 0 then fEr eF bL else bE
def dLs (bE : Int) (bL : List Int) (eF : Int -> Int) (lF : Int -> List En) : List Int := if dEr bE bL eF = 0 then 0 :: (bL ++ fLs (fun o => snds (lF o)) bL) else []
theorem sz_le_len : ∀ l : List En, l.length * 3 <= szE l
 | [] => Nat.le_refl _
 | x :: l => by have := sz_le_len l; rw [sz_cons, List.length_cons]; omega
structure Dir (k r c q : Int) (n : Nat) (F : Nat -> List UInt8) (X : Int) (M : Nat) (bE : Int) (bL : List Int) (eF : Int -> Int) (lF : Int -> List En) (SE : Int -> Int) (SL : Int -> List Li) : Prop where
  b4 : bE = 0 -> bL.length = 4
  bok : bE = 0 -> X = 0
  bno : bE ≠ 0 -> bL = []
  eok : ∀ o, eF o = 0 -> X = 0 /\ mayE q (lF o) = true /\ szE (lF o) <= M
  eno : ∀ o, eF o ≠ 0 -> lF o = []
  elen : ∀ o, (lF o).length <= 32768
  good : X = 0 -> PP k r c q M 0
  bks : ∀ w lo cl A C, Slt w lo n cl A C F -> Calls Tryz.prog 11 #[.agg #[.int .i64 k, .int .i64 r, .int .i64 c, .int .i64 q, .slice lo n cl]] w (AnsI w bE bL)
  ens : ∀ o w lo cl A C, Slt w lo n cl A C F -> Calls Tryz.prog 26 #[.agg #[.int .i64 k, .int .i64 r, .int .i64 c, .int .i64 q, .slice lo n cl], .int .i64 o] w (AnsE w (eF o) (lF o))
  dcs : ∀ w lo cl A C, Slt w lo n cl A C F -> Calls Tryz.prog 9 #[.agg #[.int .i64 k, .int .i64 r, .int .i64 c, .int .i64 q, .slice lo n cl]] w (AnsI w (dEr bE bL eF) (dLs bE bL eF lF))
theorem dir_ex {k r c q : Int} {n : Nat} {F : Nat -> List UInt8} {X : Int} {M : Nat} {mv : Int} {BE : Int -> Int} {BB : Int -> List UInt8} {SE : Int -> Int} {SL : Int -> List Li} (hE : Env k r c q n F X M mv BE BB SE SL) : ∃ bE bL eF lF, Dir k r c q n F X M bE bL eF lF SE SL := by
 have each : ∀ b : List UInt8, ∃ p : List En × List UInt8, Prs b p.1 p.2 := fun b => by obtain ⟨l, rest, h⟩ := prs_of b; exact ⟨(l, rest), h⟩
 obtain ⟨pf, hpf⟩ := Classical.axiomOfChoice each
 have u4 : ∀ o, (uL q (BE o) (BB o)).length <= 4 := fun o => by unfold uL; split; exact Nat.le_refl _; exact Nat.zero_le _
 have elen : ∀ o, (eL q M (BE o) (BB o) (pf (BB o)).1 (pf (BB o)).2).length <= 32768 := fun o => by
  unfold eL
  split
  ·have h1 := prs_sz (hpf (BB o))
   have h2 := hE.blen o
   have h3 := sz_le_len (pf (BB o)).1
   omega
  ·exact Nat.zero_le _
 have e0 : ∀ o, eE q M (BE o) (BB o) (pf (BB o)).1 (pf (BB o)).2 ≠ 0 -> eL q M (BE o) (BB o) (pf (BB o)).1 (pf (BB o)).2 = [] := fun o h => by unfold eL; rw [if_neg h]
 have hbk : ∀ o w lo cl A C, Slt w lo n cl A C F -> Calls Tryz.prog 21 #[.agg #[.int .i64 k, .int .i64 r, .int .i64 c, .int .i64 q, .slice lo n cl], .int .i64 o] w (AnsI w (uE q (BE o) (BB o)) (uL q (BE o) (BB o))) := fun o w lo cl A C hl =>
  bucketsIn_any (M := M) (fun hb => hE.good (hE.bok o hb)) w lo n cl o (BB o) (hE.bnil o) (fun u hu => hE.bts o u lo cl A C (hl.below hu))
 have hen : ∀ o w lo cl A C, Slt w lo n cl A C F -> Calls Tryz.prog 26 #[.agg #[.int .i64 k, .int .i64 r, .int .i64 c, .int .i64 q, .slice lo n cl], .int .i64 o] w (AnsE w (eE q M (BE o) (BB o) (pf (BB o)).1 (pf (BB o)).2) (eL q M (BE o) (BB o) (pf (BB o)).1 (pf (BB o)).2)) := fun o w lo cl A C hl =>
  entriesIn_any (M := M) (fun hb => hE.good (hE.bok o hb)) w lo n cl o (BB o) (hE.bnil o) (by have := hE.blen o; omega) _ _ (hpf (BB o)) (fun u hu => hE.bts o u lo cl A C (hl.below hu))
 refine ⟨uE q (BE 0) (BB 0), uL q (BE 0) (BB 0), fun o => eE q M (BE o) (BB o) (pf (BB o)).1 (pf (BB o)).2, fun o => eL q M (BE o) (BB o) (pf (BB o)).1 (pf (BB o)).2, ?_⟩
 refine { b4 := fun h => by unfold uL; rw [if_pos h]; rfl, bok := fun h => ?_, bno := fun h => by unfold uL; rw [if_neg h], eok := fun o h => ?_, eno := e0, elen := elen, good := hE.good, bks := fun w lo cl A C hl => LBuckets_any w lo n cl _ _ (fun u hu => hbk 0 u lo cl A C (hl.below hu)), ens := hen, dcs := fun w lo cl A C hl => ?_ }
 ·by_cases h0 : BE 0 = 0
  ·exact hE.bok 0 h0
  ·unfold uE at h; rw [if_neg h0] at h; exact absurd h h0
 ·have h' : eE q M (BE o) (BB o) (pf (BB o)).1 (pf (BB o)).2 = 0 := h
  have hL : eL q M (BE o) (BB o) (pf (BB o)).1 (pf (BB o)).2 = (pf (BB o)).1 := by unfold eL; rw [if_pos h']
  show X = 0 /\ mayE q (eL q M (BE o) (BB o) (pf (BB o)).1 (pf (BB o)).2) = true /\ szE (eL q M (BE o) (BB o) (pf (BB o)).1 (pf (BB o)).2) <= M
  rw [hL]
  by_cases h0 : BE o = 0
  ·unfold eE at h'
   rw [if_pos h0] at h'
   unfold erB at h'
   rw [if_pos rfl] at h'
   have hs := prs_sz (hpf (BB o))
   split at h'
   ·exact absurd h' (by decide)
   ·split at h'
    ·rename_i h1 h2
     exact ⟨hE.bok o h0, h2.2, by rw [h2.1, List.length_nil] at hs; omega⟩
    ·exact absurd h' (by decide)
  ·unfold eE at h'; rw [if_neg h0] at h'; exact absurd h' h0
 ·obtain ⟨eF, heF⟩ : ∃ eF : Int -> Int, eF = fun o => eE q M (BE o) (BB o) (pf (BB o)).1 (pf (BB o)).2 := ⟨_, rfl⟩
  obtain ⟨lF, hlF⟩ : ∃ lF : Int -> List En, lF = fun o => eL q M (BE o) (BB o) (pf (BB o)).1 (pf (BB o)).2 := ⟨_, rfl⟩
  rw [<- heF, <- hlF]
  have hen' : ∀ o u, RowKit.Below w.heap.size w u -> Calls Tryz.prog 26 #[.agg #[.int .i64 k, .int .i64 r, .int .i64 c, .int .i64 q, .slice lo n cl], .int .i64 o] u (AnsE u (eF o) (lF o)) := fun o u hu => by rw [heF, hlF]; exact hen o u lo cl A C (hl.below hu)
  have e0' : ∀ o, eF o ≠ 0 -> lF o = [] := fun o => by rw [heF, hlF]; exact e0 o
  have elen' : ∀ o, (lF o).length <= 32768 := fun o => by rw [hlF]; exact elen o
  have h22 : ∀ o u, RowKit.Below w.heap.size w u -> Calls Tryz.prog 22 #[.agg #[.int .i64 k, .int .i64 r, .int .i64 c, .int .i64 q, .slice lo n cl], .int .i64 o] u (AnsI u (eF o) (snds (lF o))) := fun o u hu => objectsIn_any u lo n cl o (eF o) (lF o) (by have := elen' o; omega) (e0' o) (fun v hv => hen' o v (below_then hu hv))
  have h21 : ∀ o u, RowKit.Below w.heap.size w u -> Calls Tryz.prog 21 #[.agg #[.int .i64 k, .int .i64 r, .int .i64 c, .int .i64 q, .slice lo n cl], .int .i64 o] u (AnsI u (uE q (BE o) (BB o)) (uL q (BE o) (BB o))) := fun o u hu => hbk o u lo cl A C (hl.below hu)
  refine Descs_any w lo n cl _ _ (fun ga gl gn gm gd v ao L ca ro R rc Y hca hro hY hob hA hR => ?_) (fun h => by unfold dLs; rw [if_neg h])
  subst hA hR
  have hd := down_0 w k r c q lo n cl ga gl gn gm gd (fun o => uE q (BE o) (BB o)) (fun o => uL q (BE o) (BB o)) (fun o h => by show uL _ _ _ = []; unfold uL; rw [if_neg h]) (fun o => by have := u4 o; omega)
   (fun R => if fEr eF R = 0 then 0 else fEr eF R) (fun R => R ++ fLs (fun o => snds (lF o)) R) h21
   (fun v ao A ca ro R rc Y h1 h2 h3 h4 h5 h6 => down_1 w k r c q lo n cl ga gl gn gm gd eF (fun o => snds (lF o)) (fun o h => by rw [e0' o h]; rfl) (fun o => by unfold snds; rw [List.length_map]; have := elen' o; omega)
    (fun _ => 0) (fun R => R) h22 (fun v ao A ca ro R rc Y h1 h2 _ _ h5 h6 => leaf_d w k r c q lo n cl ga gl gn gm gd v ao A ca h1 ro R rc Y h2 (by omega) (by omega)) v ao A ca h1 ro R rc Y h2 h3 h4 h5 h6)
   v ao [] ca hca ro [0] rc Y hro hY hob (by simp) (by simp)
  refine hd.mono fun e v' h => ?_
  obtain ⟨h1, h2, h3⟩ := h
  have f1 : fEr (fun o => uE q (BE o) (BB o)) [0] = uE q (BE 0) (BB 0) := by
   show (if uE q (BE 0) (BB 0) = 0 then (0 : Int) else uE q (BE 0) (BB 0)) = _
   split
   ·rename_i h; exact h.symm
   ·rfl
  have f2 : fLs (fun o => uL q (BE o) (BB o)) [0] = uL q (BE 0) (BB 0) := by simp [fLs]
  have f3 : ∀ x : Int, (if x = 0 then (0 : Int) else x) = x := fun x => by split; rename_i h; exact h.symm; rfl
  rw [f1, f2] at h1 h2
  simp only [f3] at h1 h2
  refine ⟨h1, fun h0 => ?_, h3⟩
  obtain ⟨ao', ca', hc⟩ := h2 h0
  have hd0 : dEr (uE q (BE 0) (BB 0)) (uL q (BE 0) (BB 0)) eF = 0 := h0
  have e1 : dLs (uE q (BE 0) (BB 0)) (uL q (BE 0) (BB 0)) eF lF = [] ++ ([0] ++ (uL q (BE 0) (BB 0) ++ fLs (fun o => snds (lF o)) (uL q (BE 0) (BB 0)))) := by unfold dLs; rw [if_pos hd0]; rfl
  rw [e1]
  exact ⟨ao', ca', hc⟩
end Go.Proofs.YtngcdlodcdgcaaaGreat.Dr
