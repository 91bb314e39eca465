import Derived.Test.YtngcdlodcdgcaaaGreatZk5
import Derived.Test.YtngcdlodcdgcaaaGreatZk7
namespace Go.Proofs.YtngcdlodcdgcaaaGreat.Dr
open Go.RowKit Go.Sort
def fEr (f : Int -> Int) : List Int -> Int
  | [] => 0
  | x :: l => if f x = 0 then fEr f l else f x
def fLs (g : Int -> List Int) (l : List Int) : List Int := l.flatMap g
theorem fEr_take {f : Int -> Int} : ∀ {l : List Int} {i : Nat}, i < l.length -> fEr f (l.take i) = 0 -> (f (l.getD i 0) = 0 -> fEr f (l.take (i + 1)) = 0) /\ (f (l.getD i 0) ≠ 0 -> fEr f l = f (l.getD i 0))
 | [], i, h, _ => absurd h (Nat.not_lt_zero i)
 | x :: l, 0, _, _ => ⟨fun e => by have e' : f x = 0 := e; show (if f x = 0 then fEr f [] else f x) = 0; rw [if_pos e']; rfl, fun e => if_neg e⟩
 | x :: l, i + 1, h, g => by
  have hx : f x = 0 := by
   by_cases e : f x = 0
   ·exact e
   ·have : fEr f ((x :: l).take (i + 1)) = f x := if_neg e
    rw [this] at g; exact absurd g e
  have g' : fEr f (l.take i) = 0 := by
   have : fEr f ((x :: l).take (i + 1)) = fEr f (l.take i) := if_pos hx
   rw [<- this]; exact g
  obtain ⟨h1, h2⟩ := fEr_take (l := l) (i := i) (by simpa using h) g'
  refine ⟨fun e => ?_, fun e => ?_⟩
  ·have : fEr f ((x :: l).take (i + 1 + 1)) = fEr f (l.take (i + 1)) := if_pos hx
   rw [this]; exact h1 (by simpa using e)
  ·have : fEr f (x :: l) = fEr f l := if_pos hx
   rw [this, h2 (by simpa using e)]; simp
theorem fLs_take {g : Int -> List Int} {l : List Int} {i : Nat} (h : i < l.length) : fLs g (l.take (i + 1)) = fLs g (l.take i) ++ g (l.getD i 0) := by
 unfold fLs
 rw [List.take_add_one, List.getElem?_eq_getElem h, List.flatMap_append]
 simp [List.getD_eq_getElem?_getD, List.getElem?_eq_getElem h]
theorem fLs_le {g : Int -> List Int} {m : Nat} (h : ∀ o, (g o).length <= m) : ∀ l : List Int, (fLs g l).length <= l.length * m
 | [] => by simp [fLs]
 | x :: l => by
  have ih := fLs_le h l
  have hx := h x
  show ((x :: l).flatMap g).length <= _
  rw [List.flatMap_cons, List.length_append, List.length_cons, Nat.succ_mul]
  unfold fLs at ih
  omega
structure Ca (w : World) (k r c q : Int) (lo : Option Addr) (n cl ga gl gn gm gd : Nat) (v : World) (ao : Option Addr) (A : List Int) (ca : Nat) : Prop where
  all : Im.Blk v ga 33 [.slice ao A.length ca]
  nam : Im.Blk v gn 56 [.slice (some ⟨gl, 0, none⟩) 2 2]
  two : Im.Blk v gl 55 [.func (.func 21) #[] #[], .func (.func 22) #[] #[]]
  img : Im.Blk v gm 26 [.int .i64 k, .int .i64 r, .int .i64 c, .int .i64 q, .slice lo n cl]
  dwn : Im.Blk v gd 57 [.func (.func 23) #[] #[.pointer (some ⟨ga, 0, none⟩), .pointer (some ⟨gn, 0, none⟩), .pointer (some ⟨gm, 0, none⟩), .pointer (some ⟨gd, 0, none⟩)]]
  apart : w.heap.size <= ga /\ ga ≠ gn /\ ga ≠ gl /\ ga ≠ gm /\ ga ≠ gd /\ ga <= gd /\ gn <= gd /\ gl <= gd /\ gm <= gd
  own : OwI (gd + 1) v ao A ca
  bel : RowKit.Below w.heap.size w v
theorem Ca.below {w : World} {k r c q : Int} {lo : Option Addr} {n cl ga gl gn gm gd : Nat} {v v' : World} {ao : Option Addr} {A : List Int} {ca : Nat} (h : Ca w k r c q lo n cl ga gl gn gm gd v ao A ca) (hb : RowKit.Below v.heap.size v v') : Ca w k r c q lo n cl ga gl gn gm gd v' ao A ca :=
 ⟨h.all.below hb, h.nam.below hb, h.two.below hb, h.img.below hb, h.dwn.below hb, h.apart, h.own.below hb, below_then h.bel hb⟩
theorem blk_grown {w w' : World} {g : Nat} {t : TypeId} {cs : List Value} {B E s n cap : Nat} {ao : Option Addr} {vs : List Value} (h : Im.Blk w g t cs) (ho : Ow B w E s ao n cap vs) (hg : w.grownBy w' (Value.slice ao n cap).ownBlock) (hB : g < B) : Im.Blk w' g t cs := by
 refine (hg.block g h.lt ?_).trans h
 intro e
 have := ow_ge ho g e.symm
 omega
theorem owi_store {B : Nat} {w : World} {ao : Option Addr} {L : List Int} {ca g : Nat} (h : OwI B w ao L ca) (hg : g < B) (v : Value) : OwI B (w.setCell ⟨g, 0, none⟩ v) ao L ca :=
 ow_stay h fun j hj _ => heap_setCell_other _ _ _ _ (by show j ≠ g; omega)
theorem Ca.step {w : World} {k r c q : Int} {lo : Option Addr} {n cl ga gl gn gm gd : Nat} {v v' : World} {ao ao' : Option Addr} {A A' : List Int} {ca ca' : Nat} (h : Ca w k r c q lo n cl ga gl gn gm gd v ao A ca) (ho : OwI (gd + 1) v' ao' A' ca') (hg : v.grownBy v' (Value.slice ao A.length ca).ownBlock) :
  Ca w k r c q lo n cl ga gl gn gm gd (v'.setCell ⟨ga, 0, none⟩ (.slice ao' A'.length ca')) ao' A' ca' := by
 obtain ⟨a0, a1, a2, a3, a4, a5, a6, a7, a8⟩ := h.apart
 have oth : ∀ {g : Nat} {t : TypeId} {cs : List Value}, Im.Blk v g t cs -> g <= gd -> ga ≠ g -> Im.Blk (v'.setCell ⟨ga, 0, none⟩ (.slice ao' A'.length ca')) g t cs := fun hb hl hn =>
  (heap_setCell_other _ _ _ _ (by show _ ≠ ga; exact fun e => hn e.symm)).trans (blk_grown hb h.own hg (by omega))
 refine ⟨?_, oth h.nam a6 a1, oth h.two a7 a2, oth h.img a8 a3, oth h.dwn (Nat.le_refl _) a4, h.apart, owi_store ho (by omega) _, ?_⟩
 ·exact (blk_grown h.all h.own hg (by omega)).set 0 _
 ·refine (h.bel.grown hg h.bel.size fun g hg' => ?_).setCell (by show w.heap.size <= ga; exact a0) _
  have := ow_ge h.own g hg'
  omega
theorem rei_step {v v' : World} {ao ro : Option Addr} {A R : List Int} {ca rc ga Y : Nat} {u : Value} (h : OwI Y v ro R rc) (hY : ga < Y) (ho : ∀ g, (Value.slice ao A.length ca).ownBlock = some g -> g < Y) (hg : v.grownBy v' (Value.slice ao A.length ca).ownBlock) :
  OwI Y (v'.setCell ⟨ga, 0, none⟩ u) ro R rc := by
 refine ow_stay h fun j hj hjs => (heap_setCell_other _ _ _ _ (by show j ≠ ga; omega)).trans (hg.block j hjs ?_)
 intro e
 have := ho j e.symm
 omega
end Go.Proofs.YtngcdlodcdgcaaaGreat.Dr
namespace Go.Proofs.YtngcdlodcdgcaaaGreat.Dr
open Go.RowKit Go.Sort
theorem Ca.cells {w : World} {k r c q : Int} {lo : Option Addr} {n cl ga gl gn gm gd : Nat} {v : World} {ao : Option Addr} {A : List Int} {ca : Nat} (h : Ca w k r c q lo n cl ga gl gn gm gd v ao A ca) :
  v.cell? ⟨ga, 0, none⟩ = some (.slice ao A.length ca) /\ v.cell? ⟨gn, 0, none⟩ = some (.slice (some ⟨gl, 0, none⟩) 2 2) /\ v.cell? ⟨gl, 0, none⟩ = some (.func (.func 21) #[] #[]) /\ v.cell? ⟨gl, 1, none⟩ = some (.func (.func 22) #[] #[]) /\
  (v.cell? ⟨gm, 0, none⟩ = some (.int .i64 k) /\ v.cell? ⟨gm, 1, none⟩ = some (.int .i64 r) /\ v.cell? ⟨gm, 2, none⟩ = some (.int .i64 c) /\ v.cell? ⟨gm, 3, none⟩ = some (.int .i64 q) /\ v.cell? ⟨gm, 4, none⟩ = some (.slice lo n cl)) /\
  v.cell? ⟨gd, 0, none⟩ = some (.func (.func 23) #[] #[.pointer (some ⟨ga, 0, none⟩), .pointer (some ⟨gn, 0, none⟩), .pointer (some ⟨gm, 0, none⟩), .pointer (some ⟨gd, 0, none⟩)]) /\ gd + 1 <= v.heap.size :=
 ⟨h.all.cell rfl, h.nam.cell rfl, h.two.cell rfl, h.two.cell rfl, ⟨h.img.cell rfl, h.img.cell rfl, h.img.cell rfl, h.img.cell rfl, h.img.cell rfl⟩, h.dwn.cell rfl, h.dwn.lt⟩
set_option maxHeartbeats 1000000 in
set_option maxRecDepth 100000 in
theorem down_leaf (w : World) (k r c q : Int) (lo : Option Addr) (n cl ga gl gn gm gd : Nat) (v : World) (ao : Option Addr) (A : List Int) (ca : Nat) (h : Ca w k r c q lo n cl ga gl gn gm gd v ao A ca)
  (ro : Option Addr) (R : List Int) (rc Y : Nat) (hR : OwI Y v ro R rc) (hA : A.length <= 100000000) (hRn : R.length <= 100000000) :
  Calls Tryz.prog 23 #[.int .i64 2, .slice ro R.length rc, .pointer (some ⟨ga, 0, none⟩), .pointer (some ⟨gn, 0, none⟩), .pointer (some ⟨gm, 0, none⟩), .pointer (some ⟨gd, 0, none⟩)] v fun e v' => e = .returned (.int .i64 0) /\ ∃ ao' ca', Ca w k r c q lo n cl ga gl gn gm gd v' ao' (A ++ R) ca' := by
 obtain ⟨s0, _, _, _, _, _, hsz⟩ := h.cells
 have hown := h.own
 have hrei := hR.rei
 have HC : Hid (Ca w k r c q lo n cl ga gl gn gm gd v ao A ca) := h
 clear hR h
 go_enter Tryz.func23, Tryz.ntmps23
 go_wp2_with (at_builtin; refine append_ints (by rfl) (.tmp 14) (.tmp 15) (by rfl) (gd + 1) ca rc ao ro A R (by rfl) (by rfl) hown hrei (by omega) hsz ?_; intro ao4 ca4 w4 A4 hA4 hown4 hg4; have HA4 : Hid (A4 = A ++ R) := hA4; have HC4 : Hid (Ca w k r c q lo n cl ga gl gn gm gd (w4.setCell ⟨ga, 0, none⟩ (.slice ao4 A4.length ca4)) ao4 A4 ca4) := HC.out.step hown4 hg4; have b4 := blk_grown HC.out.all HC.out.own hg4 (by have := HC.out.apart; omega); have s4 := b4.cell (i := 0) rfl; have f4 := b4.free 0; obtain ⟨_, t1, _⟩ := HC4.out.cells; clear hA4 hown4 hg4 b4 s0 hown hrei)
 go_ret
 refine ⟨rfl, ao4, ca4, ?_⟩
 rw [<- HA4.out]
 exact HC4.out
end Go.Proofs.YtngcdlodcdgcaaaGreat.Dr
namespace Go.Proofs.YtngcdlodcdgcaaaGreat.Dr
open Go.RowKit Go.Sort
def AnsD (w : World) (k r c q : Int) (lo : Option Addr) (n cl ga gl gn gm gd : Nat) (E : Int) (L : List Int) (e : Ending) (v' : World) : Prop :=
  e = .returned (.int .i64 E) /\ (E = 0 -> ∃ ao ca, Ca w k r c q lo n cl ga gl gn gm gd v' ao L ca) /\ RowKit.Below w.heap.size w v'
theorem leaf_d (w : World) (k r c q : Int) (lo : Option Addr) (n cl ga gl gn gm gd : Nat) (v : World) (ao : Option Addr) (A : List Int) (ca : Nat) (h : Ca w k r c q lo n cl ga gl gn gm gd v ao A ca)
  (ro : Option Addr) (R : List Int) (rc Y : Nat) (hR : OwI Y v ro R rc) (hA : A.length <= 100000000) (hRn : R.length <= 100000000) :
  Calls Tryz.prog 23 #[.int .i64 2, .slice ro R.length rc, .pointer (some ⟨ga, 0, none⟩), .pointer (some ⟨gn, 0, none⟩), .pointer (some ⟨gm, 0, none⟩), .pointer (some ⟨gd, 0, none⟩)] v (AnsD w k r c q lo n cl ga gl gn gm gd 0 (A ++ R)) := by
 refine (down_leaf w k r c q lo n cl ga gl gn gm gd v ao A ca h ro R rc Y hR hA hRn).mono ?_
 rintro e v' ⟨rfl, ao', ca', hc⟩
 exact ⟨rfl, fun _ => ⟨ao', ca', hc⟩, hc.bel⟩
theorem own_lt {B : Nat} {w : World} {ao : Option Addr} {L : List Int} {ca : Nat} (h : OwI B w ao L ca) : ∀ b, (Value.slice ao L.length ca).ownBlock = some b -> b < w.heap.size := by
 intro b hb
 rcases h.2 with ⟨h1, _⟩ | ⟨g, cap', cur, h1, h2, h3, h4⟩
 ·rw [h1] at hb; cases hb
 ·rw [h1] at hb
  have e : g = b := by have : some g = some b := hb; cases this; rfl
  rw [<- e]
  exact (Array.getElem?_eq_some_iff.1 h3).1
set_option maxHeartbeats 2000000 in
set_option maxRecDepth 100000 in
theorem down_1 (w : World) (k r c q : Int) (lo : Option Addr) (n cl ga gl gn gm gd : Nat) (f : Int -> Int) (g : Int -> List Int) (hg0 : ∀ o, f o ≠ 0 -> g o = []) (hgn : ∀ o, (g o).length <= 40000) (NE : List Int -> Int) (NL : List Int -> List Int)
  (HF : Hid (∀ o u, RowKit.Below w.heap.size w u -> Calls Tryz.prog 22 #[.agg #[.int .i64 k, .int .i64 r, .int .i64 c, .int .i64 q, .slice lo n cl], .int .i64 o] u (AnsI u (f o) (g o))))
  (HD : Hid (∀ v ao A ca ro R rc Y, Ca w k r c q lo n cl ga gl gn gm gd v ao A ca -> OwI Y v ro R rc -> gd < Y -> (∀ b, (Value.slice ao A.length ca).ownBlock = some b -> b < Y) -> A.length <= 1000000 -> R.length <= 100000000 ->
   Calls Tryz.prog 23 #[.int .i64 2, .slice ro R.length rc, .pointer (some ⟨ga, 0, none⟩), .pointer (some ⟨gn, 0, none⟩), .pointer (some ⟨gm, 0, none⟩), .pointer (some ⟨gd, 0, none⟩)] v (AnsD w k r c q lo n cl ga gl gn gm gd (NE R) (A ++ NL R))))
  (v : World) (ao : Option Addr) (A : List Int) (ca : Nat) (h : Ca w k r c q lo n cl ga gl gn gm gd v ao A ca)
  (ro : Option Addr) (R : List Int) (rc Y : Nat) (hR : OwI Y v ro R rc) (hY : gd < Y) (hob : ∀ b, (Value.slice ao A.length ca).ownBlock = some b -> b < Y) (hA : A.length <= 100) (hRn : R.length <= 1000) :
  Calls Tryz.prog 23 #[.int .i64 1, .slice ro R.length rc, .pointer (some ⟨ga, 0, none⟩), .pointer (some ⟨gn, 0, none⟩), .pointer (some ⟨gm, 0, none⟩), .pointer (some ⟨gd, 0, none⟩)] v (AnsD w k r c q lo n cl ga gl gn gm gd (if fEr f R = 0 then NE (fLs g R) else fEr f R) (A ++ (R ++ NL (fLs g R)))) := by
 obtain ⟨s0, _, _, _, _, _, hsz⟩ := h.cells
 have hown := h.own
 have hrei := hR.rei
 have HC : Hid (Ca w k r c q lo n cl ga gl gn gm gd v ao A ca) := h
 have HY : Hid (gd < Y /\ (∀ b, (Value.slice ao A.length ca).ownBlock = some b -> b < Y) /\ OwI Y v ro R rc) := ⟨hY, hob, hR⟩
 have HNG : Hid ((∀ o, f o ≠ 0 -> g o = []) /\ ∀ o, (g o).length <= 40000) := ⟨hg0, hgn⟩
 unfold AnsD at HD ⊢
 unfold AnsI at HF
 obtain ⟨E, hE⟩ : ∃ E, E = (if fEr f R = 0 then NE (fLs g R) else fEr f R) := ⟨_, rfl⟩
 have HE : Hid (E = (if fEr f R = 0 then NE (fLs g R) else fEr f R)) := hE
 rw [<- hE]
 clear hR h hY hob hg0 hgn hE
 go_enter Tryz.func23, Tryz.ntmps23
 go_wp2_with (at_builtin; refine append_ints (by rfl) (.tmp 14) (.tmp 15) (by rfl) (gd + 1) ca rc ao ro A R (by rfl) (by rfl) hown hrei (by omega) hsz ?_; intro ao4 ca4 w4 A4 hA4 hown4 hg4; have HA4 : Hid (A4 = A ++ R) := hA4; have HC4 : Hid (Ca w k r c q lo n cl ga gl gn gm gd (w4.setCell ⟨ga, 0, none⟩ (.slice ao4 A4.length ca4)) ao4 A4 ca4) := HC.out.step hown4 hg4; have b4 := blk_grown HC.out.all HC.out.own hg4 (by have := HC.out.apart; omega); have s4 := b4.cell (i := 0) rfl; have f4 := b4.free 0; obtain ⟨_, t1, _⟩ := HC4.out.cells; have HR4 : Hid (OwI Y (w4.setCell ⟨ga, 0, none⟩ (.slice ao4 A4.length ca4)) ro R rc) := rei_step HY.out.2.2 (by have := HC.out.apart; have := HY.out.1; omega) HY.out.2.1 hg4; have HO4 : Hid (∀ b, (Value.slice ao4 A4.length ca4).ownBlock = some b -> b < w4.heap.size) := own_lt hown4; have HS4 : Hid (gd < w4.heap.size) := (blk_grown HC.out.dwn HC.out.own hg4 (Nat.lt_succ_self _)).lt; clear hA4 hown4 hg4 b4 s0 hown hrei)
 obtain ⟨w5, hw5⟩ : ∃ w5, w5 = w4.setCell ⟨ga, 0, none⟩ (.slice ao4 A4.length ca4) := ⟨_, rfl⟩
 have z5 : w5.heap.size = w4.heap.size := by rw [hw5]; simp [World.setCell]
 rw [<- hw5] at HC4 HR4 ⊢
 have HO5 : Hid (gd < w5.heap.size /\ ∀ b, (Value.slice ao4 A4.length ca4).ownBlock = some b -> b < w5.heap.size) := by rw [z5]; exact ⟨HS4.out, HO4.out⟩
 clear hw5 z5 s4 f4 t1 HO4 HS4
 go_loopw [9, 23] (fun y x wr => ∃ (i : Nat) (bo : Option Addr) (bc : Nat) (L : List Int), i <= R.length /\ x = .int .i64 (i : Int) /\ y = .slice bo L.length bc /\ Hid (L = fLs g (R.take i) /\ fEr f (R.take i) = 0) /\ Hid (OwI w5.heap.size wr bo L bc) /\ Hid (RowKit.Below w5.heap.size w5 wr)) (fun _ x _ => R.length - (intOf x).toNat)
 case atStart => exact ⟨0, none, 0, [], Nat.zero_le _, rfl, rfl, ⟨rfl, rfl⟩, owi_nil _ _, Below.refl _ _⟩
 case round =>
  obtain ⟨i, bo, bc, L, hi, rfl, rfl, hL, hownL, hbel⟩ := hrel
  have HCr : Hid (Ca w k r c q lo n cl ga gl gn gm gd wr ao4 A4 ca4) := HC4.out.below hbel.out
  by_cases hlt : i < R.length
  ·obtain ⟨b, off, rfl, hc⟩ := (HR4.out.below hbel.out).rei.at_ (by omega)
   have c0 := hc i hlt
   obtain ⟨_, t1, t2, t3, ⟨t4, t5, t6, t7, t8⟩, _, hszr⟩ := HCr.out.cells
   obtain ⟨x, hx⟩ : ∃ x, x = R.getD i 0 := ⟨_, rfl⟩
   have HX : Hid (x = R.getD i 0) := hx
   rw [<- hx] at c0
   have HLn : Hid (L.length <= 1000 * 40000) := by
    show _ <= _
    rw [hL.out.1]
    have h1 := fLs_le (g := g) HNG.out.2 (R.take i)
    have h2 : (R.take i).length <= 1000 := by rw [List.length_take]; omega
    have := Nat.mul_le_mul_right 40000 h2
    omega
   have hHF := fun u hu => HF.out x u hu
   have i1 : (0 : Int) <= (i : Int) := by omega
   have i2 : (i : Int) < (R.length : Int) := by omega
   have HBr : Hid (RowKit.Below w.heap.size w wr) := HCr.out.bel
   obtain ⟨fx, hfx⟩ : ∃ fx, fx = f x := ⟨_, rfl⟩
   obtain ⟨gx, hgx⟩ : ∃ gx, gx = g x := ⟨_, rfl⟩
   have HFG : Hid (fx = f x /\ gx = g x) := ⟨hfx, hgx⟩
   rw [<- hfx, <- hgx] at hHF
   have KS : Hid (∀ u, RowKit.Below wr.heap.size wr u -> u.cell? ⟨gn, 0, none⟩ = some (.slice (some ⟨gl, 0, none⟩) 2 2) /\ u.cell? ⟨gl, 1, none⟩ = some (.func (.func 22) #[] #[]) /\ u.cell? ⟨gm, 0, none⟩ = some (.int .i64 k) /\ u.cell? ⟨gm, 1, none⟩ = some (.int .i64 r) /\ u.cell? ⟨gm, 2, none⟩ = some (.int .i64 c) /\ u.cell? ⟨gm, 3, none⟩ = some (.int .i64 q) /\ u.cell? ⟨gm, 4, none⟩ = some (.slice lo n cl)) := fun u hu => by
    obtain ⟨_, y1, y2, y3, ⟨y4, y5, y6, y7, y8⟩, _, _⟩ := (HCr.out.below hu).cells
    exact ⟨y1, y3, y4, y5, y6, y7, y8⟩
   clear hc hx hfx hgx
   go_wp2_with fail
   go_region_held3 (fun v => v.cell? ⟨gn, 0, none⟩ = some (.slice (some ⟨gl, 0, none⟩) 2 2) /\ v.cell? ⟨gl, 1, none⟩ = some (.func (.func 22) #[] #[]) /\ v.cell? ⟨gm, 0, none⟩ = some (.int .i64 k) /\ v.cell? ⟨gm, 1, none⟩ = some (.int .i64 r) /\ v.cell? ⟨gm, 2, none⟩ = some (.int .i64 c) /\ v.cell? ⟨gm, 3, none⟩ = some (.int .i64 q) /\ v.cell? ⟨gm, 4, none⟩ = some (.slice lo n cl)) ((first | (exact KS.out _ (below_drew _ _)) | (exact KS.out _ HD0.out)))
    ((go_at_call 22; refine (hHF _ (below_then HBr.out (below_drew _ _))).mono ?_; rintro e wd ⟨uo, uc, rfl, hou, hd0⟩; have HD0 : Hid (RowKit.Below wr.heap.size wr wd) := below_then (below_drew _ _) hd0; have HOU : Hid (Rei wd uo gx uc) := hou.rei; clear hou hd0))
   clear hHF t1 t2 t3 t4 t5 t6 t7 t8 c0
   have HBd : Hid (RowKit.Below w5.heap.size w5 wd) := below_then hbel.out HD0.out
   have hownd := hownL.out.below HD0.out
   have hreid := HOU.out
   have hszd := HBd.out.size
   have hgl : gx.length <= 40000 := by rw [HFG.out.2]; exact HNG.out.2 x
   have hLn := HLn.out
   by_cases hz : fx = 0
   ·subst hz
    have HNX : Hid (L ++ gx = fLs g (R.take (i + 1)) /\ fEr f (R.take (i + 1)) = 0) := ⟨by rw [fLs_take hlt, hL.out.1, HFG.out.2, HX.out], (fEr_take hlt hL.out.2).1 (by rw [<- HX.out]; exact HFG.out.1.symm)⟩
    go_wp2_with (at_builtin; refine append_ints (by rfl) (.tmp 40) (.tmp 41) (by rfl) w5.heap.size bc uc bo uo L gx (by rfl) (by rfl) hownd hreid (by omega) hszd ?_; intro bo6 bc6 w6 L6 hL6 hown6 hg6; have HL6 : Hid (L6 = L ++ gx) := hL6; have HB6 : Hid (RowKit.Below w5.heap.size w5 w6) := HBd.out.grown hg6 hszd hownd.ge; clear hL6 hg6)
    go_roundw
    case rel => exact ⟨i + 1, bo6, bc6, L6, by omega, by go_num, rfl, by show _ /\ _; rw [HL6.out]; exact HNX.out, hown6, HB6.out⟩
    case measure => simp [intOf]; omega
   ·have hz' : (fx != 0) = true := by simpa using hz
    have HEX : Hid (E = fx /\ ¬ fx = 0) := by
     have h1 := (fEr_take (f := f) hlt hL.out.2).2 (by rw [<- HX.out, <- HFG.out.1]; exact hz)
     rw [<- HX.out, <- HFG.out.1] at h1
     refine ⟨?_, hz⟩
     rw [HE.out, h1, if_neg hz]
    have HBB : Hid (RowKit.Below w.heap.size w wd) := below_then HBr.out HD0.out
    clear hz hownd hreid
    go_wp2_with fail
    go_ret
    exact ⟨by rw [HEX.out.1]; rfl, fun e0 => absurd (HEX.out.1.symm.trans e0) HEX.out.2, HBB.out⟩
  ·obtain rfl : i = R.length := by omega
   have HLL : Hid (L = fLs g R /\ fEr f R = 0) := by have := hL.out; rw [List.take_length] at this; exact this
   obtain ⟨_, _, _, _, _, t9, _⟩ := HCr.out.cells
   have HLn : Hid (L.length <= 100000000) := by
    show _ <= _
    rw [HLL.out.1]
    have h1 := fLs_le (g := g) HNG.out.2 R
    have := Nat.mul_le_mul_right 40000 hRn
    omega
   have HAn : Hid (A4.length <= 1000000) := by show _ <= _; rw [HA4.out, List.length_append]; omega
   have hcall := HD.out wr ao4 A4 ca4 bo L bc w5.heap.size HCr.out hownL.out HO5.out.1 HO5.out.2 HAn.out HLn.out
   have HEE : Hid (E = NE L) := by show _ = _; rw [HE.out, if_pos HLL.out.2, HLL.out.1]
   rw [<- HEE.out] at hcall
   have HLE : Hid (A4 ++ NL L = A ++ (R ++ NL (fLs g R))) := by show _ = _; rw [HA4.out, HLL.out.1, List.append_assoc]
   rw [HLE.out] at hcall
   clear hL
   go_wp2_with fail
   refine hcall.mono ?_
   rintro e wz ⟨rfl, hz1, hz2⟩
   go_wp2_with fail
   go_ret
   exact ⟨rfl, hz1, hz2⟩
set_option maxHeartbeats 2000000 in
set_option maxRecDepth 100000 in
theorem down_0 (w : World) (k r c q : Int) (lo : Option Addr) (n cl ga gl gn gm gd : Nat) (f : Int -> Int) (g : Int -> List Int) (hg0 : ∀ o, f o ≠ 0 -> g o = []) (hgn : ∀ o, (g o).length <= 900) (NE : List Int -> Int) (NL : List Int -> List Int)
  (HF : Hid (∀ o u, RowKit.Below w.heap.size w u -> Calls Tryz.prog 21 #[.agg #[.int .i64 k, .int .i64 r, .int .i64 c, .int .i64 q, .slice lo n cl], .int .i64 o] u (AnsI u (f o) (g o))))
  (HD : Hid (∀ v ao A ca ro R rc Y, Ca w k r c q lo n cl ga gl gn gm gd v ao A ca -> OwI Y v ro R rc -> gd < Y -> (∀ b, (Value.slice ao A.length ca).ownBlock = some b -> b < Y) -> A.length <= 100 -> R.length <= 1000 ->
   Calls Tryz.prog 23 #[.int .i64 1, .slice ro R.length rc, .pointer (some ⟨ga, 0, none⟩), .pointer (some ⟨gn, 0, none⟩), .pointer (some ⟨gm, 0, none⟩), .pointer (some ⟨gd, 0, none⟩)] v (AnsD w k r c q lo n cl ga gl gn gm gd (NE R) (A ++ NL R))))
  (v : World) (ao : Option Addr) (A : List Int) (ca : Nat) (h : Ca w k r c q lo n cl ga gl gn gm gd v ao A ca)
  (ro : Option Addr) (R : List Int) (rc Y : Nat) (hR : OwI Y v ro R rc) (hY : gd < Y) (hob : ∀ b, (Value.slice ao A.length ca).ownBlock = some b -> b < Y) (hA : A.length <= 50) (hRn : R.length <= 1) :
  Calls Tryz.prog 23 #[.int .i64 0, .slice ro R.length rc, .pointer (some ⟨ga, 0, none⟩), .pointer (some ⟨gn, 0, none⟩), .pointer (some ⟨gm, 0, none⟩), .pointer (some ⟨gd, 0, none⟩)] v (AnsD w k r c q lo n cl ga gl gn gm gd (if fEr f R = 0 then NE (fLs g R) else fEr f R) (A ++ (R ++ NL (fLs g R)))) := by
 obtain ⟨s0, _, _, _, _, _, hsz⟩ := h.cells
 have hown := h.own
 have hrei := hR.rei
 have HC : Hid (Ca w k r c q lo n cl ga gl gn gm gd v ao A ca) := h
 have HY : Hid (gd < Y /\ (∀ b, (Value.slice ao A.length ca).ownBlock = some b -> b < Y) /\ OwI Y v ro R rc) := ⟨hY, hob, hR⟩
 have HNG : Hid ((∀ o, f o ≠ 0 -> g o = []) /\ ∀ o, (g o).length <= 900) := ⟨hg0, hgn⟩
 unfold AnsD at HD ⊢
 unfold AnsI at HF
 obtain ⟨E, hE⟩ : ∃ E, E = (if fEr f R = 0 then NE (fLs g R) else fEr f R) := ⟨_, rfl⟩
 have HE : Hid (E = (if fEr f R = 0 then NE (fLs g R) else fEr f R)) := hE
 rw [<- hE]
 clear hR h hY hob hg0 hgn hE
 go_enter Tryz.func23, Tryz.ntmps23
 go_wp2_with (at_builtin; refine append_ints (by rfl) (.tmp 14) (.tmp 15) (by rfl) (gd + 1) ca rc ao ro A R (by rfl) (by rfl) hown hrei (by omega) hsz ?_; intro ao4 ca4 w4 A4 hA4 hown4 hg4; have HA4 : Hid (A4 = A ++ R) := hA4; have HC4 : Hid (Ca w k r c q lo n cl ga gl gn gm gd (w4.setCell ⟨ga, 0, none⟩ (.slice ao4 A4.length ca4)) ao4 A4 ca4) := HC.out.step hown4 hg4; have b4 := blk_grown HC.out.all HC.out.own hg4 (by have := HC.out.apart; omega); have s4 := b4.cell (i := 0) rfl; have f4 := b4.free 0; obtain ⟨_, t1, _⟩ := HC4.out.cells; have HR4 : Hid (OwI Y (w4.setCell ⟨ga, 0, none⟩ (.slice ao4 A4.length ca4)) ro R rc) := rei_step HY.out.2.2 (by have := HC.out.apart; have := HY.out.1; omega) HY.out.2.1 hg4; have HO4 : Hid (∀ b, (Value.slice ao4 A4.length ca4).ownBlock = some b -> b < w4.heap.size) := own_lt hown4; have HS4 : Hid (gd < w4.heap.size) := (blk_grown HC.out.dwn HC.out.own hg4 (Nat.lt_succ_self _)).lt; clear hA4 hown4 hg4 b4 s0 hown hrei)
 obtain ⟨w5, hw5⟩ : ∃ w5, w5 = w4.setCell ⟨ga, 0, none⟩ (.slice ao4 A4.length ca4) := ⟨_, rfl⟩
 have z5 : w5.heap.size = w4.heap.size := by rw [hw5]; simp [World.setCell]
 rw [<- hw5] at HC4 HR4 ⊢
 have HO5 : Hid (gd < w5.heap.size /\ ∀ b, (Value.slice ao4 A4.length ca4).ownBlock = some b -> b < w5.heap.size) := by rw [z5]; exact ⟨HS4.out, HO4.out⟩
 clear hw5 z5 s4 f4 t1 HO4 HS4
 go_loopw [9, 23] (fun y x wr => ∃ (i : Nat) (bo : Option Addr) (bc : Nat) (L : List Int), i <= R.length /\ x = .int .i64 (i : Int) /\ y = .slice bo L.length bc /\ Hid (L = fLs g (R.take i) /\ fEr f (R.take i) = 0) /\ Hid (OwI w5.heap.size wr bo L bc) /\ Hid (RowKit.Below w5.heap.size w5 wr)) (fun _ x _ => R.length - (intOf x).toNat)
 case atStart => exact ⟨0, none, 0, [], Nat.zero_le _, rfl, rfl, ⟨rfl, rfl⟩, owi_nil _ _, Below.refl _ _⟩
 case round =>
  obtain ⟨i, bo, bc, L, hi, rfl, rfl, hL, hownL, hbel⟩ := hrel
  have HCr : Hid (Ca w k r c q lo n cl ga gl gn gm gd wr ao4 A4 ca4) := HC4.out.below hbel.out
  by_cases hlt : i < R.length
  ·obtain ⟨b, off, rfl, hc⟩ := (HR4.out.below hbel.out).rei.at_ (by omega)
   have c0 := hc i hlt
   obtain ⟨_, t1, t2, t3, ⟨t4, t5, t6, t7, t8⟩, _, hszr⟩ := HCr.out.cells
   obtain ⟨x, hx⟩ : ∃ x, x = R.getD i 0 := ⟨_, rfl⟩
   have HX : Hid (x = R.getD i 0) := hx
   rw [<- hx] at c0
   have HLn : Hid (L.length <= 1 * 900) := by
    show _ <= _
    rw [hL.out.1]
    have h1 := fLs_le (g := g) HNG.out.2 (R.take i)
    have h2 : (R.take i).length <= 1 := by rw [List.length_take]; omega
    have := Nat.mul_le_mul_right 900 h2
    omega
   have hHF := fun u hu => HF.out x u hu
   have i1 : (0 : Int) <= (i : Int) := by omega
   have i2 : (i : Int) < (R.length : Int) := by omega
   have HBr : Hid (RowKit.Below w.heap.size w wr) := HCr.out.bel
   obtain ⟨fx, hfx⟩ : ∃ fx, fx = f x := ⟨_, rfl⟩
   obtain ⟨gx, hgx⟩ : ∃ gx, gx = g x := ⟨_, rfl⟩
   have HFG : Hid (fx = f x /\ gx = g x) := ⟨hfx, hgx⟩
   rw [<- hfx, <- hgx] at hHF
   have KS : Hid (∀ u, RowKit.Below wr.heap.size wr u -> u.cell? ⟨gn, 0, none⟩ = some (.slice (some ⟨gl, 0, none⟩) 2 2) /\ u.cell? ⟨gl, 0, none⟩ = some (.func (.func 21) #[] #[]) /\ u.cell? ⟨gm, 0, none⟩ = some (.int .i64 k) /\ u.cell? ⟨gm, 1, none⟩ = some (.int .i64 r) /\ u.cell? ⟨gm, 2, none⟩ = some (.int .i64 c) /\ u.cell? ⟨gm, 3, none⟩ = some (.int .i64 q) /\ u.cell? ⟨gm, 4, none⟩ = some (.slice lo n cl)) := fun u hu => by
    obtain ⟨_, y1, y2, y3, ⟨y4, y5, y6, y7, y8⟩, _, _⟩ := (HCr.out.below hu).cells
    exact ⟨y1, y2, y4, y5, y6, y7, y8⟩
   clear hc hx hfx hgx
   go_wp2_with fail
   go_region_held3 (fun v => v.cell? ⟨gn, 0, none⟩ = some (.slice (some ⟨gl, 0, none⟩) 2 2) /\ v.cell? ⟨gl, 0, none⟩ = some (.func (.func 21) #[] #[]) /\ v.cell? ⟨gm, 0, none⟩ = some (.int .i64 k) /\ v.cell? ⟨gm, 1, none⟩ = some (.int .i64 r) /\ v.cell? ⟨gm, 2, none⟩ = some (.int .i64 c) /\ v.cell? ⟨gm, 3, none⟩ = some (.int .i64 q) /\ v.cell? ⟨gm, 4, none⟩ = some (.slice lo n cl)) ((first | (exact KS.out _ (below_drew _ _)) | (exact KS.out _ HD0.out)))
    ((go_at_call 21; refine (hHF _ (below_then HBr.out (below_drew _ _))).mono ?_; rintro e wd ⟨uo, uc, rfl, hou, hd0⟩; have HD0 : Hid (RowKit.Below wr.heap.size wr wd) := below_then (below_drew _ _) hd0; have HOU : Hid (Rei wd uo gx uc) := hou.rei; clear hou hd0))
   clear hHF t1 t2 t3 t4 t5 t6 t7 t8 c0
   have HBd : Hid (RowKit.Below w5.heap.size w5 wd) := below_then hbel.out HD0.out
   have hownd := hownL.out.below HD0.out
   have hreid := HOU.out
   have hszd := HBd.out.size
   have hgl : gx.length <= 900 := by rw [HFG.out.2]; exact HNG.out.2 x
   have hLn := HLn.out
   by_cases hz : fx = 0
   ·subst hz
    have HNX : Hid (L ++ gx = fLs g (R.take (i + 1)) /\ fEr f (R.take (i + 1)) = 0) := ⟨by rw [fLs_take hlt, hL.out.1, HFG.out.2, HX.out], (fEr_take hlt hL.out.2).1 (by rw [<- HX.out]; exact HFG.out.1.symm)⟩
    go_wp2_with (at_builtin; refine append_ints (by rfl) (.tmp 40) (.tmp 41) (by rfl) w5.heap.size bc uc bo uo L gx (by rfl) (by rfl) hownd hreid (by omega) hszd ?_; intro bo6 bc6 w6 L6 hL6 hown6 hg6; have HL6 : Hid (L6 = L ++ gx) := hL6; have HB6 : Hid (RowKit.Below w5.heap.size w5 w6) := HBd.out.grown hg6 hszd hownd.ge; clear hL6 hg6)
    go_roundw
    case rel => exact ⟨i + 1, bo6, bc6, L6, by omega, by go_num, rfl, by show _ /\ _; rw [HL6.out]; exact HNX.out, hown6, HB6.out⟩
    case measure => simp [intOf]; omega
   ·have hz' : (fx != 0) = true := by simpa using hz
    have HEX : Hid (E = fx /\ ¬ fx = 0) := by
     have h1 := (fEr_take (f := f) hlt hL.out.2).2 (by rw [<- HX.out, <- HFG.out.1]; exact hz)
     rw [<- HX.out, <- HFG.out.1] at h1
     refine ⟨?_, hz⟩
     rw [HE.out, h1, if_neg hz]
    have HBB : Hid (RowKit.Below w.heap.size w wd) := below_then HBr.out HD0.out
    clear hz hownd hreid
    go_wp2_with fail
    go_ret
    exact ⟨by rw [HEX.out.1]; rfl, fun e0 => absurd (HEX.out.1.symm.trans e0) HEX.out.2, HBB.out⟩
  ·obtain rfl : i = R.length := by omega
   have HLL : Hid (L = fLs g R /\ fEr f R = 0) := by have := hL.out; rw [List.take_length] at this; exact this
   obtain ⟨_, _, _, _, _, t9, _⟩ := HCr.out.cells
   have HLn : Hid (L.length <= 1000) := by
    show _ <= _
    rw [HLL.out.1]
    have h1 := fLs_le (g := g) HNG.out.2 R
    have := Nat.mul_le_mul_right 900 hRn
    omega
   have HAn : Hid (A4.length <= 100) := by show _ <= _; rw [HA4.out, List.length_append]; omega
   have hcall := HD.out wr ao4 A4 ca4 bo L bc w5.heap.size HCr.out hownL.out HO5.out.1 HO5.out.2 HAn.out HLn.out
   have HEE : Hid (E = NE L) := by show _ = _; rw [HE.out, if_pos HLL.out.2, HLL.out.1]
   rw [<- HEE.out] at hcall
   have HLE : Hid (A4 ++ NL L = A ++ (R ++ NL (fLs g R))) := by show _ = _; rw [HA4.out, HLL.out.1, List.append_assoc]
   rw [HLE.out] at hcall
   clear hL
   go_wp2_with fail
   refine hcall.mono ?_
   rintro e wz ⟨rfl, hz1, hz2⟩
   go_wp2_with fail
   go_ret
   exact ⟨rfl, hz1, hz2⟩
end Go.Proofs.YtngcdlodcdgcaaaGreat.Dr
