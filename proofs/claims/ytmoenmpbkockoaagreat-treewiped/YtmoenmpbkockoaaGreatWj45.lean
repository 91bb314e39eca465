import Derived.Test.YtmoenmpbkockoaaGreatWj18
import Derived.Test.YtmoenmpbkockoaaGreatWj36
import Derived.Test.YtmoenmpbkockoaaGreatWj44
namespace Go.Proofs.YtmoenmpbkockoaaGreat
open Go.RowKit
def dW (k c : Int) (N Q : Nat) (F : Nat -> List UInt8) (o : Nat) : Nat -> UInt8 := wnD k N c (gL Q F o) (gF Q F o)
def dV (k c : Int) (N Q : Nat) (F : Nat -> List UInt8) (o : Nat) : Int := wnV k N c (gL Q F o) (gF Q F o)
def dE (k c q : Int) (N W Q : Nat) (F : Nat -> List UInt8) (o : Nat) : Int := erCR 0 W k c q N N (gL Q F o) (gF Q F o)
def Ob (k r c q : Int) (n : Nat) (F : Nat -> List UInt8) (o E A D : Int) (M : Nat) (R V : Nat -> Int) (y : Int) (l s : Nat) (SR SV : Nat -> Int) : Prop :=
  (E ≠ 0 /\ ∃ n' G, Im.Rww k r c q n F o E n' G) \/
  ∃ N W Q S, Par k r c q N W 0 /\ Im.Ck k r c q n F 0 N Q S /\ (0 <= o /\ o < (Q : Int)) /\
    (A = ((nm (dW k c N Q F o.toNat) 0 4 : Nat) : Int) /\ D = ((nm (dW k c N Q F o.toNat) 4 1 : Nat) : Int) /\ M = nm (dW k c N Q F o.toNat) 5 2 /\ R = De.rdR (dW k c N Q F o.toNat) 7 /\ V = De.rdV (dW k c N Q F o.toNat) 7 /\ y = dV k c N Q F o.toNat) /\
    ((dE k c q N W Q F o.toNat ≠ 0 /\ E = dE k c q N W Q F o.toNat) \/
     (dE k c q N W Q F o.toNat = 0 /\
       ((D = 0 /\ E = 0 /\ l = 0 /\ s = M /\ SR = R /\ SV = V) \/
        (D ≠ 0 /\ E = erLs (fun i => erLf k c q N W Q F (R i) (V i) (lfN W (up A.toNat W) i)) M /\ l = M /\ s = up A.toNat W /\ SR = sgR k c N W Q F R V /\ SV = sgV k c N W Q F R V))))
theorem ck_par {k r c q : Int} {n : Nat} {F : Nat -> List UInt8} {N Q S : Nat} (h : Im.Ck k r c q n F 0 N Q S) : ∃ W, Par k r c q N W 0 := by
  obtain ⟨⟨h0, hN, hQ, hS⟩, _⟩ := h.ok rfl
  obtain ⟨h1, h2, h3, h4, h5, h6, h7, h8, h9⟩ := may_true h0
  exact ⟨(k * c).toNat, .inl ⟨h0, by omega, hN, rfl⟩⟩
theorem ob_ex (k r c q : Int) (n : Nat) (F : Nat -> List UInt8) (o : Int) : ∃ E A D M R V y l s SR SV, Ob k r c q n F o E A D M R V y l s SR SV := by
  obtain ⟨x, n', G, h⟩ := Im.rww_ex k r c q n F o
  by_cases hx : x = 0
  · subst hx
    obtain ⟨y, N, Q, S, hck, ⟨rfl, h1, h2, _, _, _⟩ | ⟨_, ⟨h1, h2⟩ | ⟨_, _, h3⟩⟩⟩ := h
    · obtain ⟨W, hp⟩ := ck_par hck
      by_cases hE : dE k c q N W Q F o.toNat = 0
      · by_cases hD : nm (dW k c N Q F o.toNat) 4 1 = 0
        · exact ⟨0, _, _, _, _, _, _, 0, _, _, _, .inr ⟨N, W, Q, S, hp, hck, ⟨h1, h2⟩, ⟨rfl, rfl, rfl, rfl, rfl, rfl⟩, .inr ⟨hE, .inl ⟨by rw [hD]; rfl, rfl, rfl, rfl, rfl, rfl⟩⟩⟩⟩
        · exact ⟨_, _, _, _, _, _, _, _, _, _, _, .inr ⟨N, W, Q, S, hp, hck, ⟨h1, h2⟩, ⟨rfl, rfl, rfl, rfl, rfl, rfl⟩, .inr ⟨hE, .inr ⟨by omega, rfl, rfl, rfl, rfl, rfl⟩⟩⟩⟩
      · exact ⟨_, _, _, _, _, _, _, 0, 0, fun _ => 0, fun _ => 0, .inr ⟨N, W, Q, S, hp, hck, ⟨h1, h2⟩, ⟨rfl, rfl, rfl, rfl, rfl, rfl⟩, .inl ⟨hE, rfl⟩⟩⟩
    · exact absurd h2.symm h1
    · cases h3
  · exact ⟨x, 0, 0, 0, fun _ => 0, fun _ => 0, 0, 0, 0, fun _ => 0, fun _ => 0, .inl ⟨hx, n', G, h⟩⟩
end Go.Proofs.YtmoenmpbkockoaaGreat
namespace Go.Proofs.YtmoenmpbkockoaaGreat
open Go.RowKit
theorem owr_set {B : Nat} {w : World} {ao : Option Addr} {n cp : Nat} {R V : Nat -> Int} (h : De.OwR B w ao n cp R V) {g : Nat} (hg : g < B) (i : Nat) (v : Value) : De.OwR B (w.setCell ⟨g, i, none⟩ v) ao n cp R V :=
  h.stay fun t ht _ => by have hne : t ≠ g := by omega
                          exact heap_setCell_other _ _ _ _ hne
theorem im_set {B : Nat} {w : World} {lo : Option Addr} {n : Nat} {A : Nat -> Option Addr} {C : Nat -> Nat} {F : Nat -> List UInt8} (h : Im.Im B w lo n A C F) {g : Nat} (hg : g < B) (i : Nat) (v : Value) : Im.Im B (w.setCell ⟨g, i, none⟩ v) lo n A C F :=
  h.only (X := fun b => b = g) ((Im.Only.refl (fun b => b = g) w).setCell (p := ⟨g, i, none⟩) rfl v) (fun b hb e => by omega)
set_option maxHeartbeats 4000000 in
set_option maxRecDepth 100000 in
theorem obj_e2 {k r c q : Int} (w : World) (lo : Option Addr) (n cl N : Nat) (o x : Int) (hx : x ≠ 0) (G : Nat -> List UInt8) (A D : Int) (M : Nat) (R V : Nat -> Int) (y : Int)
    (HA : Hid (∀ u, Below w.heap.size w u -> Calls Tryz.prog 29 #[.agg #[.int .i64 k, .int .i64 r, .int .i64 c, .int .i64 q, .slice lo n cl], .int .i64 o] u fun e w' => ∃ lo' A' C', e = .returned (.tuple #[.slice lo' N N, .int .i64 0]) /\ Im.Im u.heap.size w' lo' (2 * N) A' C' G /\ Below u.heap.size u w'))
    (HR : Hid (∀ u ro A' C, Rw u ro N A' (fun j => (G j).length) C (fun j t => (G j).getD t 0) -> Calls Tryz.prog 11 #[.agg #[.int .i64 k, .int .i64 r, .int .i64 c, .int .i64 q], .slice ro N N] u (AnsRd u x y A D M R V))) (l s : Nat) (SR SV : Nat -> Int) :
    Calls Tryz.prog 22 #[.agg #[.int .i64 k, .int .i64 r, .int .i64 c, .int .i64 q, .slice lo n cl], .int .i64 o] w (AnsO w x A D M R V y l s SR SV) := by
  have hz : (x != 0) = true := by simpa using hx
  have HX : Hid (x ≠ 0) := hx
  unfold AnsRd at HR
  rw [lenE_ne M hx, De.lenI_not hx, De.lenI_not hx, De.lenI_not hx] at HR
  have HO : Hid (OB w w.heap.size (objW w k r c q lo n cl) k r c q lo n cl (.int .i64 0) (.int .i64 0) (.slice none 0 0) (.int .i64 0) (.slice none 0 0) (.slice none 0 0) (.int .i64 0)) := ob_new w k r c q lo n cl
  have hmf : ∀ (fn : Fn) (first cap : Array Value) (w : World), (Instr.makeFunc fn first cap).run Tryz.prog w = .ok (.func fn first cap) w := fun _ _ _ _ => rfl
  clear hx
  go_enter_defers Tryz.func22, Tryz.ntmps22
  go_wp2_with fail
  refine (HA.out (objW w k r c q lo n cl) HO.out.bel).mono ?_
  rintro e wa ⟨lo', A', C', rfl, hI, ha⟩
  have O1 := HO.out.below ha
  have hrw := rw_of (im_set hI (g := w.heap.size + 5) (by have := HO.out.siz.2; omega) 0 (.int .i64 0))
  have HO1 : Hid (OB w w.heap.size (wa.setCell ⟨w.heap.size + 5, 0, none⟩ (.int .i64 0)) k r c q lo n cl (.int .i64 0) (.int .i64 0) (.slice none 0 0) (.int .i64 0) (.slice none 0 0) (.slice none 0 0) (.int .i64 0)) := O1.setE _
  obtain ⟨⟨s0, s1, s2, s3, s4⟩, ⟨t0, t1, t2⟩, t3, t4, t5, t6⟩ := O1.cells
  obtain ⟨f1, f2, f3, f4, f5⟩ := O1.free
  clear O1 ha HA HO hI
  go_wp2_with fail
  refine (HR.out _ _ _ _ hrw).mono ?_
  rintro e wb ⟨ao, cp, rfl, _, hb⟩
  clear s0 s1 s2 s3 s4 t0 t1 t2 t3 t4 t5 t6 f1 f2 f3 f4 f5 hrw HR
  have O2 := HO1.out.below hb
  have HO2 : Hid (OB w w.heap.size wb k r c q lo n cl (.int .i64 0) (.int .i64 0) (.slice none 0 0) (.int .i64 0) (.slice none 0 0) (.slice none 0 0) (.int .i64 0)) := O2
  obtain ⟨⟨s0, s1, s2, s3, s4⟩, ⟨t0, t1, t2⟩, t3, t4, t5, t6⟩ := O2.cells
  obtain ⟨f1, f2, f3, f4, f5⟩ := O2.free
  clear O2 hb HO1
  go_wp2_with fail
  refine leaves_cons (f := 60) (args := #[.pointer (some ⟨w.heap.size + 5, 0, none⟩), .pointer (some ⟨w.heap.size + 1, 0, none⟩), .pointer (some ⟨w.heap.size + 2, 0, none⟩), .pointer (some ⟨w.heap.size + 3, 0, none⟩), .pointer (some ⟨w.heap.size + 4, 0, none⟩)]) (by simp) (by simp [go_sem]) ?_
  refine (obj_defer (((HO2.out.setD (.int .i64 0) (.int .i64 0) (.slice ao 0 cp)).setY (.int .i64 0)).setE (.int .i64 x)) .returning).mono ?_
  rintro e u' w'' ⟨rfl, rfl, ⟨h0, _⟩ | ⟨_, hO, _⟩⟩
  · exact absurd h0 HX.out
  · obtain ⟨_, ⟨v0, v1, v2⟩, v3, v4, v5, v6⟩ := hO.cells
    exact ⟨_, by simp [results, Tryz.results22, go_sem, v0, v1, v2, v3, v4, v5, v6], ansO_bad HX.out hO.bel _ _ _ _ _ _ _ _ _ _⟩
set_option maxHeartbeats 4000000 in
set_option maxRecDepth 100000 in
theorem obj_d0 {k r c q : Int} (w : World) (lo : Option Addr) (n cl N : Nat) (o : Int) (G : Nat -> List UInt8) (A : Int) (M : Nat) (hM : M <= 1000) (R V : Nat -> Int) (y : Int)
    (HA : Hid (∀ u, Below w.heap.size w u -> Calls Tryz.prog 29 #[.agg #[.int .i64 k, .int .i64 r, .int .i64 c, .int .i64 q, .slice lo n cl], .int .i64 o] u fun e w' => ∃ lo' A' C', e = .returned (.tuple #[.slice lo' N N, .int .i64 0]) /\ Im.Im u.heap.size w' lo' (2 * N) A' C' G /\ Below u.heap.size u w'))
    (HR : Hid (∀ u ro A' C, Rw u ro N A' (fun j => (G j).length) C (fun j t => (G j).getD t 0) -> Calls Tryz.prog 11 #[.agg #[.int .i64 k, .int .i64 r, .int .i64 c, .int .i64 q], .slice ro N N] u (AnsRd u 0 y A 0 M R V))) :
    Calls Tryz.prog 22 #[.agg #[.int .i64 k, .int .i64 r, .int .i64 c, .int .i64 q, .slice lo n cl], .int .i64 o] w (AnsO w 0 A 0 M R V y 0 M R V) := by
  unfold AnsRd at HR
  unfold AnsO
  rw [lenE_zero, De.lenI_zero, De.lenI_zero, De.lenI_zero] at HR
  rw [lenE_zero, lenE_zero, De.lenI_zero, De.lenI_zero, De.lenI_zero]
  have HO : Hid (OB w w.heap.size (objW w k r c q lo n cl) k r c q lo n cl (.int .i64 0) (.int .i64 0) (.slice none 0 0) (.int .i64 0) (.slice none 0 0) (.slice none 0 0) (.int .i64 0)) := ob_new w k r c q lo n cl
  have hmf : ∀ (fn : Fn) (first cap : Array Value) (w : World), (Instr.makeFunc fn first cap).run Tryz.prog w = .ok (.func fn first cap) w := fun _ _ _ _ => rfl
  go_enter_defers Tryz.func22, Tryz.ntmps22
  go_wp2_with fail
  refine (HA.out (objW w k r c q lo n cl) HO.out.bel).mono ?_
  rintro e wa ⟨lo', A', C', rfl, hI, ha⟩
  have O1 := HO.out.below ha
  have hrw := rw_of (im_set hI (g := w.heap.size + 5) (by have := HO.out.siz.2; omega) 0 (.int .i64 0))
  have HO1 : Hid (OB w w.heap.size (wa.setCell ⟨w.heap.size + 5, 0, none⟩ (.int .i64 0)) k r c q lo n cl (.int .i64 0) (.int .i64 0) (.slice none 0 0) (.int .i64 0) (.slice none 0 0) (.slice none 0 0) (.int .i64 0)) := O1.setE _
  obtain ⟨⟨s0, s1, s2, s3, s4⟩, ⟨t0, t1, t2⟩, t3, t4, t5, t6⟩ := O1.cells
  obtain ⟨f1, f2, f3, f4, f5⟩ := O1.free
  clear O1 ha HA HO hI
  go_wp2_with fail
  refine (HR.out _ _ _ _ hrw).mono ?_
  rintro e wb ⟨ao, cp, rfl, hown, hb⟩
  clear s0 s1 s2 s3 s4 t0 t1 t2 t3 t4 t5 t6 f1 f2 f3 f4 f5 hrw HR
  have O2 := HO1.out.below hb
  have HZ1 : Hid (w.heap.size + 6 <= (wa.setCell ⟨w.heap.size + 5, 0, none⟩ (.int .i64 0)).heap.size) := HO1.out.siz.2
  obtain ⟨Z, hZ⟩ : ∃ Z, Z = (wa.setCell ⟨w.heap.size + 5, 0, none⟩ (.int .i64 0)).heap.size := ⟨_, rfl⟩
  rw [<- hZ] at HZ1 hown
  clear hZ
  have HW1 := owr_set (owr_set (owr_set (owr_set (owr_set hown (g := w.heap.size + 1) (by have := HZ1.out; omega) 0 (.int .i64 A)) (g := w.heap.size + 1) (by have := HZ1.out; omega) 1 (.int .i64 0)) (g := w.heap.size + 1) (by have := HZ1.out; omega) 2 (.slice ao M cp)) (g := w.heap.size + 2) (by have := HZ1.out; omega) 0 (.int .i64 y)) (g := w.heap.size + 5) (by have := HZ1.out; omega) 0 (.int .i64 0)
  have O3 := ((O2.setD (.int .i64 A) (.int .i64 0) (.slice ao M cp)).setY (.int .i64 y)).setE (.int .i64 0)
  have HO3 : Hid (OB w w.heap.size _ k r c q lo n cl (.int .i64 A) (.int .i64 0) (.slice ao M cp) (.int .i64 y) (.slice none 0 0) (.slice none 0 0) (.int .i64 0)) := O3
  have HWW : Hid (De.OwR Z _ ao M cp R V) := HW1
  obtain ⟨⟨s0, s1, s2, s3, s4⟩, ⟨t0, t1, t2⟩, t3, t4, t5, t6⟩ := O2.cells
  obtain ⟨f1, f2, f3, f4, f5⟩ := O2.free
  clear O2 hb HO1 O3 HW1 hown
  go_wp2_with fail
  refine (cloneR_any _ ao M cp R V HWW.out.rec hM).mono ?_
  rintro e wc ⟨bo, cb, rfl, hob, hc⟩
  have O4 := HO3.out.below hc
  have HZ2 : Hid (w.heap.size + 6 <= _) := HO3.out.siz.2
  have HO4 : Hid (OB w w.heap.size wc k r c q lo n cl (.int .i64 A) (.int .i64 0) (.slice ao M cp) (.int .i64 y) (.slice none 0 0) (.slice none 0 0) (.int .i64 0)) := O4
  have HW4 : Hid (De.OwR w.heap.size (wc.setCell ⟨w.heap.size + 4, 0, none⟩ (.slice bo M cb)) ao M cp R V) := (owr_set (HWW.out.below hc) (g := w.heap.size + 4) (by have := HZ1.out; omega) 0 (.slice bo M cb)).mono (by have := HZ1.out; omega)
  have HV4 : Hid (De.OwR w.heap.size (wc.setCell ⟨w.heap.size + 4, 0, none⟩ (.slice bo M cb)) bo M cb R V) := (owr_set hob (g := w.heap.size + 4) (by have := HZ2.out; omega) 0 (.slice bo M cb)).mono (by have := HZ2.out; omega)
  clear s0 s1 s2 s3 s4 t0 t1 t2 t3 t4 t5 t6 f1 f2 f3 f4 f5 hob hc HWW HO3
  obtain ⟨⟨s0, s1, s2, s3, s4⟩, ⟨t0, t1, t2⟩, t3, t4, t5, t6⟩ := O4.cells
  obtain ⟨f1, f2, f3, f4, f5⟩ := O4.free
  clear O4
  go_wp2_with fail
  refine leaves_cons (f := 60) (args := #[.pointer (some ⟨w.heap.size + 5, 0, none⟩), .pointer (some ⟨w.heap.size + 1, 0, none⟩), .pointer (some ⟨w.heap.size + 2, 0, none⟩), .pointer (some ⟨w.heap.size + 3, 0, none⟩), .pointer (some ⟨w.heap.size + 4, 0, none⟩)]) (by simp) (by simp [go_sem]) ?_
  refine (obj_defer (HO4.out.setS (.slice bo M cb)) .returning).mono ?_
  rintro e u' w'' ⟨rfl, rfl, ⟨_, rfl⟩ | ⟨h0, _, _⟩⟩
  · have O5 := HO4.out.setS (.slice bo M cb)
    obtain ⟨_, ⟨v0, v1, v2⟩, v3, v4, v5, v6⟩ := O5.cells
    exact ⟨_, by simp [results, Tryz.results22, go_sem, v0, v1, v2, v3, v4, v5, v6], ao, cp, none, 0, bo, cb, rfl, HW4.out, De.owr_nil _ _ _ _, HV4.out, O5.bel⟩
  · exact absurd rfl h0
end Go.Proofs.YtmoenmpbkockoaaGreat
