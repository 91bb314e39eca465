import Derived.LoopN
import Derived.Test.YtngcdlodcdgcaaaGreatZk25
namespace Go.Proofs.YtngcdlodcdgcaaaGreat
open Go.RowKit
def bov (s : Sl) (ao : Option Addr) (ca : Nat) (bo : Option Addr) (cb : Nat) (t : Sl) (ao' : Option Addr) (ca' : Nat) (bo' : Option Addr) (cb' : Nat) : Value := .agg #[.int .u8 ((s.kd.toNat : Nat) : Int), .int .i64 s.ix, .int .i64 s.ce, .int .i64 s.st, .slice ao s.vn ca, .slice bo s.dn cb, .int .u8 ((t.kd.toNat : Nat) : Int), .int .i64 t.ix, .int .i64 t.ce, .int .i64 t.st, .slice ao' t.vn ca', .slice bo' t.dn cb']
theorem idx0 (w : World) (x0 x1 x2 x3 x4 x5 x6 x7 x8 x9 x10 x11 : Value) : (Instr.index 240 (.agg #[x0, x1, x2, x3, x4, x5, x6, x7, x8, x9, x10, x11]) (.int .i64 0)).run Tryz.prog w = .ok (.agg #[x0, x1, x2, x3, x4, x5]) w := by kernel_rfl
theorem idx1 (w : World) (x0 x1 x2 x3 x4 x5 x6 x7 x8 x9 x10 x11 : Value) : (Instr.index 240 (.agg #[x0, x1, x2, x3, x4, x5, x6, x7, x8, x9, x10, x11]) (.int .i64 1)).run Tryz.prog w = .ok (.agg #[x6, x7, x8, x9, x10, x11]) w := by kernel_rfl
set_option maxHeartbeats 4000000 in
set_option maxRecDepth 100000 in
theorem find_any (w : World) (s t : Sl) (ao : Option Addr) (ca : Nat) (bo : Option Addr) (cb : Nat) (ao' : Option Addr) (ca' : Nat) (bo' : Option Addr) (cb' : Nat) (v : Int) :
    Calls Tryz.prog 159 #[bov s ao ca bo cb t ao' ca' bo' cb', .int .i64 v] w fun e w' => e = .returned (.tuple #[.int .i64 (if s.ce = v then 0 else if t.ce = v then 1 else 0), .bool (decide (s.ce = v) || decide (t.ce = v))]) /\ Below w.heap.size w w' := by
  unfold bov
  by_cases h : s.ce = v
  · rw [if_pos h, decide_eq_true h, Bool.true_or]
    have hq : (s.ce == v) = true := by simpa using h
    clear h
    go_enter Tryz.func159, Tryz.ntmps159
    go_wp2
    refine wp_loop_rounds 3 ?_
    rw [rounds_succ]
    go_wp2
    rw [idx0]
    go_wp2
    go_ret2
    exact ⟨rfl, below_then (below_alloc _ _) (below_alloc _ _)⟩
  · rw [if_neg h, decide_eq_false h, Bool.false_or]
    have hq : (s.ce == v) = false := by simpa using h
    clear h
    by_cases h : t.ce = v
    · rw [if_pos h, decide_eq_true h]
      have hp : (t.ce == v) = true := by simpa using h
      clear h
      go_enter Tryz.func159, Tryz.ntmps159
      go_wp2
      refine wp_loop_rounds 3 ?_
      rw [rounds_succ]
      go_wp2
      rw [idx0]
      go_wp2
      rw [rounds_succ]
      go_wp2
      rw [idx1]
      go_wp2
      go_ret2
      exact ⟨rfl, below_then (below_then (below_alloc _ _) (below_alloc _ _)) (below_alloc _ _)⟩
    · rw [if_neg h, decide_eq_false h]
      have hp : (t.ce == v) = false := by simpa using h
      clear h
      go_enter Tryz.func159, Tryz.ntmps159
      go_wp2
      refine wp_loop_rounds 3 ?_
      rw [rounds_succ]
      go_wp2
      rw [idx0]
      go_wp2
      rw [rounds_succ]
      go_wp2
      rw [idx1]
      go_wp2
      rw [rounds_succ]
      go_wp2
      go_ret2
      exact ⟨rfl, below_then (below_then (below_alloc _ _) (below_alloc _ _)) (below_alloc _ _)⟩
def ofI (ix : Int) (z : Sl) : Sl := if z.ix = ix then z else zSl
def ofK (kd : UInt8) (z : Sl) : Sl := if z.kd = kd then z else zSl
def keA (b : Bool) (ao : Option Addr) : Option Addr := if b = true then ao else none
def keN (b : Bool) (n : Nat) : Nat := if b = true then n else 0
set_option maxHeartbeats 4000000 in
set_option maxRecDepth 100000 in
theorem of_any (w : World) (s t : Sl) (ao : Option Addr) (ca : Nat) (bo : Option Addr) (cb : Nat) (ao' : Option Addr) (ca' : Nat) (bo' : Option Addr) (cb' : Nat) (x : Int) :
    Calls Tryz.prog 168 #[bov s ao ca bo cb t ao' ca' bo' cb', .int .i64 x] w fun e w' => e = .returned (bov (ofI x s) (keA (s.ix == x) ao) (keN (s.ix == x) ca) (keA (s.ix == x) bo) (keN (s.ix == x) cb) (ofI x t) (keA (t.ix == x) ao') (keN (t.ix == x) ca') (keA (t.ix == x) bo') (keN (t.ix == x) cb')) /\ Below w.heap.size w w' := by
  unfold bov ofI
  by_cases h : s.ix = x
  · have hq : (s.ix == x) = true := by simpa using h
    simp only [if_pos h, hq, keA, keN, if_true]
    have hqn : (s.ix != x) = false := by simpa using h
    clear h hq
    by_cases h : t.ix = x
    · have hp : (t.ix == x) = true := by simpa using h
      simp only [if_pos h, hp, if_true]
      have hpn : (t.ix != x) = false := by simpa using h
      clear h hp
      go_enter Tryz.func168, Tryz.ntmps168
      go_wp2
      refine wp_loop_rounds 3 ?_
      rw [rounds_succ]
      go_wp2
      rw [idx0]
      go_wp2
      rw [rounds_succ]
      go_wp2
      rw [idx1]
      go_wp2
      rw [rounds_succ]
      go_wp2
      refine bodyPost_ret (v := .agg #[.int .u8 ((s.kd.toNat : Nat) : Int), .int .i64 s.ix, .int .i64 s.ce, .int .i64 s.st, .slice ao s.vn ca, .slice bo s.dn cb, .int .u8 ((t.kd.toNat : Nat) : Int), .int .i64 t.ix, .int .i64 t.ce, .int .i64 t.st, .slice ao' t.vn ca', .slice bo' t.dn cb']) (by simp [results, Tryz.results168, go_sem]) rfl ⟨rfl, ?_⟩
      exact b_alloc (b_alloc (b_alloc (below_alloc _ _) _) _) _
    · have hp : (t.ix == x) = false := by simpa using h
      simp only [if_neg h, hp, Bool.false_eq_true, if_false]
      have hpn : (t.ix != x) = true := by simpa using h
      clear h hp
      go_enter Tryz.func168, Tryz.ntmps168
      go_wp2
      refine wp_loop_rounds 3 ?_
      rw [rounds_succ]
      go_wp2
      rw [idx0]
      go_wp2
      rw [rounds_succ]
      go_wp2
      rw [idx1]
      go_wp2
      rw [rounds_succ]
      go_wp2
      refine bodyPost_ret (v := .agg #[.int .u8 ((s.kd.toNat : Nat) : Int), .int .i64 s.ix, .int .i64 s.ce, .int .i64 s.st, .slice ao s.vn ca, .slice bo s.dn cb, .int .u8 0, .int .i64 0, .int .i64 0, .int .i64 0, .slice none 0 0, .slice none 0 0]) (by simp [results, Tryz.results168, go_sem]) rfl ⟨rfl, ?_⟩
      exact b_alloc (b_alloc (b_alloc (below_alloc _ _) _) _) _
  · have hq : (s.ix == x) = false := by simpa using h
    simp only [if_neg h, hq, keA, keN, Bool.false_eq_true, if_false]
    have hqn : (s.ix != x) = true := by simpa using h
    clear h hq
    by_cases h : t.ix = x
    · have hp : (t.ix == x) = true := by simpa using h
      simp only [if_pos h, hp, if_true]
      have hpn : (t.ix != x) = false := by simpa using h
      clear h hp
      go_enter Tryz.func168, Tryz.ntmps168
      go_wp2
      refine wp_loop_rounds 3 ?_
      rw [rounds_succ]
      go_wp2
      rw [idx0]
      go_wp2
      rw [rounds_succ]
      go_wp2
      rw [idx1]
      go_wp2
      rw [rounds_succ]
      go_wp2
      refine bodyPost_ret (v := .agg #[.int .u8 0, .int .i64 0, .int .i64 0, .int .i64 0, .slice none 0 0, .slice none 0 0, .int .u8 ((t.kd.toNat : Nat) : Int), .int .i64 t.ix, .int .i64 t.ce, .int .i64 t.st, .slice ao' t.vn ca', .slice bo' t.dn cb']) (by simp [results, Tryz.results168, go_sem]) rfl ⟨rfl, ?_⟩
      exact b_alloc (b_alloc (b_alloc (below_alloc _ _) _) _) _
    · have hp : (t.ix == x) = false := by simpa using h
      simp only [if_neg h, hp, Bool.false_eq_true, if_false]
      have hpn : (t.ix != x) = true := by simpa using h
      clear h hp
      go_enter Tryz.func168, Tryz.ntmps168
      go_wp2
      refine wp_loop_rounds 3 ?_
      rw [rounds_succ]
      go_wp2
      rw [idx0]
      go_wp2
      rw [rounds_succ]
      go_wp2
      rw [idx1]
      go_wp2
      rw [rounds_succ]
      go_wp2
      refine bodyPost_ret (v := .agg #[.int .u8 0, .int .i64 0, .int .i64 0, .int .i64 0, .slice none 0 0, .slice none 0 0, .int .u8 0, .int .i64 0, .int .i64 0, .int .i64 0, .slice none 0 0, .slice none 0 0]) (by simp [results, Tryz.results168, go_sem]) rfl ⟨rfl, ?_⟩
      exact b_alloc (b_alloc (b_alloc (below_alloc _ _) _) _) _
theorem Got.of {B : Nat} {w : World} {s : Sl} {ao : Option Addr} {ca : Nat} {bo : Option Addr} {cb : Nat} (h : Got B w s ao ca bo cb) (x : Int) : Got B w (ofI x s) (keA (s.ix == x) ao) (keN (s.ix == x) ca) (keA (s.ix == x) bo) (keN (s.ix == x) cb) := by
  unfold ofI keA keN
  by_cases k : s.ix = x
  · have hq : (s.ix == x) = true := by simpa using k
    simp only [if_pos k, hq, if_true]
    exact h
  · have hq : (s.ix == x) = false := by simpa using k
    simp only [if_neg k, hq, Bool.false_eq_true, if_false]
    exact got_z _ _
set_option maxHeartbeats 4000000 in
set_option maxRecDepth 100000 in
theorem only_any (w : World) (s t : Sl) (ao : Option Addr) (ca : Nat) (bo : Option Addr) (cb : Nat) (ao' : Option Addr) (ca' : Nat) (bo' : Option Addr) (cb' : Nat) (x : UInt8) :
    Calls Tryz.prog 158 #[bov s ao ca bo cb t ao' ca' bo' cb', .int .u8 ((x.toNat : Nat) : Int)] w fun e w' => e = .returned (bov (ofK x s) (keA (s.kd == x) ao) (keN (s.kd == x) ca) (keA (s.kd == x) bo) (keN (s.kd == x) cb) (ofK x t) (keA (t.kd == x) ao') (keN (t.kd == x) ca') (keA (t.kd == x) bo') (keN (t.kd == x) cb')) /\ Below w.heap.size w w' := by
  unfold bov ofK
  by_cases h : s.kd = x
  · have hq : (s.kd == x) = true := by simpa using h
    simp only [if_pos h, hq, keA, keN, if_true]
    have hqn : (((s.kd.toNat : Nat) : Int) != ((x.toNat : Nat) : Int)) = false := by simp [h]
    clear h hq
    by_cases h : t.kd = x
    · have hp : (t.kd == x) = true := by simpa using h
      simp only [if_pos h, hp, if_true]
      have hpn : (((t.kd.toNat : Nat) : Int) != ((x.toNat : Nat) : Int)) = false := by simp [h]
      clear h hp
      go_enter Tryz.func158, Tryz.ntmps158
      go_wp2
      refine wp_loop_rounds 3 ?_
      rw [rounds_succ]
      go_wp2
      rw [idx0]
      go_wp2
      rw [rounds_succ]
      go_wp2
      rw [idx1]
      go_wp2
      rw [rounds_succ]
      go_wp2
      refine bodyPost_ret (v := .agg #[.int .u8 ((s.kd.toNat : Nat) : Int), .int .i64 s.ix, .int .i64 s.ce, .int .i64 s.st, .slice ao s.vn ca, .slice bo s.dn cb, .int .u8 ((t.kd.toNat : Nat) : Int), .int .i64 t.ix, .int .i64 t.ce, .int .i64 t.st, .slice ao' t.vn ca', .slice bo' t.dn cb']) (by simp [results, Tryz.results158, go_sem]) rfl ⟨rfl, ?_⟩
      exact b_alloc (b_alloc (b_alloc (below_alloc _ _) _) _) _
    · have hp : (t.kd == x) = false := by simpa using h
      simp only [if_neg h, hp, Bool.false_eq_true, if_false]
      have hpn : (((t.kd.toNat : Nat) : Int) != ((x.toNat : Nat) : Int)) = true := by simp only [bne_iff_ne, ne_eq, Int.natCast_inj]; exact fun e => h (UInt8.toNat_inj.1 e)
      clear h hp
      go_enter Tryz.func158, Tryz.ntmps158
      go_wp2
      refine wp_loop_rounds 3 ?_
      rw [rounds_succ]
      go_wp2
      rw [idx0]
      go_wp2
      rw [rounds_succ]
      go_wp2
      rw [idx1]
      go_wp2
      rw [rounds_succ]
      go_wp2
      refine bodyPost_ret (v := .agg #[.int .u8 ((s.kd.toNat : Nat) : Int), .int .i64 s.ix, .int .i64 s.ce, .int .i64 s.st, .slice ao s.vn ca, .slice bo s.dn cb, .int .u8 0, .int .i64 0, .int .i64 0, .int .i64 0, .slice none 0 0, .slice none 0 0]) (by simp [results, Tryz.results158, go_sem]) rfl ⟨rfl, ?_⟩
      exact b_alloc (b_alloc (b_alloc (below_alloc _ _) _) _) _
  · have hq : (s.kd == x) = false := by simpa using h
    simp only [if_neg h, hq, keA, keN, Bool.false_eq_true, if_false]
    have hqn : (((s.kd.toNat : Nat) : Int) != ((x.toNat : Nat) : Int)) = true := by simp only [bne_iff_ne, ne_eq, Int.natCast_inj]; exact fun e => h (UInt8.toNat_inj.1 e)
    clear h hq
    by_cases h : t.kd = x
    · have hp : (t.kd == x) = true := by simpa using h
      simp only [if_pos h, hp, if_true]
      have hpn : (((t.kd.toNat : Nat) : Int) != ((x.toNat : Nat) : Int)) = false := by simp [h]
      clear h hp
      go_enter Tryz.func158, Tryz.ntmps158
      go_wp2
      refine wp_loop_rounds 3 ?_
      rw [rounds_succ]
      go_wp2
      rw [idx0]
      go_wp2
      rw [rounds_succ]
      go_wp2
      rw [idx1]
      go_wp2
      rw [rounds_succ]
      go_wp2
      refine bodyPost_ret (v := .agg #[.int .u8 0, .int .i64 0, .int .i64 0, .int .i64 0, .slice none 0 0, .slice none 0 0, .int .u8 ((t.kd.toNat : Nat) : Int), .int .i64 t.ix, .int .i64 t.ce, .int .i64 t.st, .slice ao' t.vn ca', .slice bo' t.dn cb']) (by simp [results, Tryz.results158, go_sem]) rfl ⟨rfl, ?_⟩
      exact b_alloc (b_alloc (b_alloc (below_alloc _ _) _) _) _
    · have hp : (t.kd == x) = false := by simpa using h
      simp only [if_neg h, hp, Bool.false_eq_true, if_false]
      have hpn : (((t.kd.toNat : Nat) : Int) != ((x.toNat : Nat) : Int)) = true := by simp only [bne_iff_ne, ne_eq, Int.natCast_inj]; exact fun e => h (UInt8.toNat_inj.1 e)
      clear h hp
      go_enter Tryz.func158, Tryz.ntmps158
      go_wp2
      refine wp_loop_rounds 3 ?_
      rw [rounds_succ]
      go_wp2
      rw [idx0]
      go_wp2
      rw [rounds_succ]
      go_wp2
      rw [idx1]
      go_wp2
      rw [rounds_succ]
      go_wp2
      refine bodyPost_ret (v := .agg #[.int .u8 0, .int .i64 0, .int .i64 0, .int .i64 0, .slice none 0 0, .slice none 0 0, .int .u8 0, .int .i64 0, .int .i64 0, .int .i64 0, .slice none 0 0, .slice none 0 0]) (by simp [results, Tryz.results158, go_sem]) rfl ⟨rfl, ?_⟩
      exact b_alloc (b_alloc (b_alloc (below_alloc _ _) _) _) _
theorem Got.only {B : Nat} {w : World} {s : Sl} {ao : Option Addr} {ca : Nat} {bo : Option Addr} {cb : Nat} (h : Got B w s ao ca bo cb) (x : UInt8) : Got B w (ofK x s) (keA (s.kd == x) ao) (keN (s.kd == x) ca) (keA (s.kd == x) bo) (keN (s.kd == x) cb) := by
  unfold ofK keA keN
  by_cases k : s.kd = x
  · have hq : (s.kd == x) = true := by simpa using k
    simp only [if_pos k, hq, if_true]
    exact h
  · have hq : (s.kd == x) = false := by simpa using k
    simp only [if_neg k, hq, Bool.false_eq_true, if_false]
    exact got_z _ _
end Go.Proofs.YtngcdlodcdgcaaaGreat
