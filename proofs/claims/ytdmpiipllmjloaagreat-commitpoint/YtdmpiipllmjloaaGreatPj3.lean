import Derived.Laws.BytesArg
import Derived.Laws.CopyOwn
import Derived.Laws.IdiomStrings
import Derived.Laws.Rows
import Derived.Deep.RegionLawGrows
import Derived.Lib.SliceRun
import Derived.BigQuiet
import Derived.StillTailTactics
import Derived.Test.YtdmpiipllmjloaaGreatPj2
namespace Go.Proofs.YtdmpiipllmjloaaGreat
structure Sl where
  kd : UInt8
  ix : Int
  ce : Int
  st : Int
  vn : Nat
  V : Nat -> Int
  dn : Nat
  D : Nat -> UInt8
def zSl : Sl := ⟨0, 0, 0, 0, 0, fun _ => 0, 0, fun _ => 0⟩
def okS (N : Nat) (c : Int) (s : Sl) : Bool := decide ((s.vn = N /\ ∀ i, i < s.vn -> 1 <= s.V i /\ s.V i <= 1073741824) /\ (s.kd = 1 \/ s.kd = 2) /\ 0 <= s.ix /\ s.ix < (s.vn : Int) /\ (s.dn : Int) = c /\ s.st = mx s.V s.vn /\ s.ce = s.V s.ix.toNat)
def sz (N : Nat) (c : Int) : Nat := 12 + 4 * N + c.toNat
def dg (m i : Nat) : UInt8 := UInt8.ofNat (m / 256 ^ i)
theorem dg_toNat (m i : Nat) : (dg m i).toNat = m / 256 ^ i % 256 := by unfold dg; simp
def enc (s : Sl) (j : Nat) : UInt8 :=
  if j = 0 then 84 else if j = 1 then 50 else if j = 2 then s.kd else if j = 3 then dg s.ix.toNat 0 else if j < 8 then dg s.ce.toNat (7 - j) else if j < 12 then dg s.st.toNat (11 - j)
  else if j < 12 + 4 * s.vn then dg (s.V ((j - 12) / 4)).toNat (3 - (j - 12) % 4) else s.D (j - (12 + 4 * s.vn))
def nm (F : Nat -> UInt8) (o : Nat) : Nat -> Nat
  | 0 => 0
  | k + 1 => nm F o k * 256 + (F (o + k)).toNat
theorem nm_lt (F : Nat -> UInt8) (o : Nat) : ∀ k, nm F o k < 256 ^ k
  | 0 => by rw [nm]; decide
  | k + 1 => by
    have h := nm_lt F o k
    have h2 : (F (o + k)).toNat < 256 := (F (o + k)).toNat_lt
    rw [nm, Nat.pow_succ]
    omega
theorem nm_congr {F G : Nat -> UInt8} {o p : Nat} : ∀ {k : Nat}, (∀ i, i < k -> F (o + i) = G (p + i)) -> nm F o k = nm G p k
  | 0, _ => rfl
  | k + 1, h => by rw [nm, nm, nm_congr (k := k) (fun i hi => h i (by omega)), h k (by omega)]
def dec (N : Nat) (c : Int) (F : Nat -> UInt8) : Sl := ⟨F 2, nm F 3 1, nm F 4 4, nm F 8 4, N, fun i => nm F (12 + 4 * i) 4, c.toNat, fun j => F (12 + 4 * N + j)⟩
def isS (N : Nat) (c : Int) (n : Nat) (F : Nat -> UInt8) : Bool := decide (n = sz N c /\ F 0 = 84 /\ F 1 = 50 /\ okS N c (dec N c F) = true)
def sameS (s t : Sl) : Bool := decide (s.kd = t.kd /\ s.ix = t.ix /\ s.ce = t.ce /\ s.st = t.st /\ s.vn = t.vn /\ s.dn = t.dn /\ (∀ i, i < s.vn -> s.V i = t.V i) /\ ∀ j, j < s.dn -> s.D j = t.D j)
theorem sameS_true {s t : Sl} (h : sameS s t = true) : s.kd = t.kd /\ s.ix = t.ix /\ s.ce = t.ce /\ s.st = t.st /\ s.vn = t.vn /\ s.dn = t.dn /\ (∀ i, i < s.vn -> s.V i = t.V i) /\ ∀ j, j < s.dn -> s.D j = t.D j := of_decide_eq_true h
theorem sameS_symm {s t : Sl} (h : sameS s t = true) : sameS t s = true := by
  obtain ⟨h1, h2, h3, h4, h5, h6, h7, h8⟩ := sameS_true h
  exact decide_eq_true ⟨h1.symm, h2.symm, h3.symm, h4.symm, h5.symm, h6.symm, fun i hi => (h7 i (by omega)).symm, fun i hi => (h8 i (by omega)).symm⟩
theorem okS_true {N : Nat} {c : Int} {s : Sl} (h : okS N c s = true) : (s.vn = N /\ ∀ i, i < s.vn -> 1 <= s.V i /\ s.V i <= 1073741824) /\ (s.kd = 1 \/ s.kd = 2) /\ 0 <= s.ix /\ s.ix < (s.vn : Int) /\ (s.dn : Int) = c /\ s.st = mx s.V s.vn /\ s.ce = s.V s.ix.toNat := of_decide_eq_true h
theorem mx_cong {R S : Nat -> Int} : ∀ {n : Nat}, (∀ i, i < n -> R i = S i) -> mx R n = mx S n
  | 0, _ => rfl
  | n + 1, h => by rw [mx, mx, mx_cong (n := n) (fun i hi => h i (by omega)), h n (by omega)]
theorem okS_same {N : Nat} {c : Int} {s t : Sl} (h : sameS s t = true) (k : okS N c s = true) : okS N c t = true := by
  obtain ⟨h1, h2, h3, h4, h5, h6, h7, h8⟩ := sameS_true h
  obtain ⟨⟨k1, k2⟩, k3, k4, k5, k6, k7, k8⟩ := okS_true k
  refine decide_eq_true ⟨⟨by omega, fun i hi => by rw [<- h7 i (by omega)]; exact k2 i (by omega)⟩, by rw [<- h1]; exact k3, by omega, by omega, by omega, ?_, ?_⟩
  · rw [<- h4, <- h5, <- mx_cong h7]; exact k7
  · rw [<- h3, <- h2, <- h7 _ (by omega)]; exact k8
theorem mx_bd {R : Nat -> Int} : ∀ {n : Nat}, (∀ i, i < n -> 1 <= R i /\ R i <= 1073741824) -> 0 <= mx R n /\ mx R n <= 1073741824
  | 0, _ => by rw [mx]; omega
  | n + 1, h => by
    have := mx_bd (n := n) (fun i hi => h i (by omega))
    have := h n (by omega)
    rw [mx, gr]
    split <;> omega
theorem okS_nums {N : Nat} {c : Int} {s : Sl} (h : okS N c s = true) : (1 <= s.ce /\ s.ce <= 1073741824) /\ 0 <= s.st /\ s.st <= 1073741824 := by
  obtain ⟨⟨k1, k2⟩, k3, k4, k5, k6, k7, k8⟩ := okS_true h
  have h1 := k2 s.ix.toNat (by omega)
  have h2 := mx_bd k2
  omega
theorem nm_dg {F : Nat -> UInt8} {o m : Nat} (h : ∀ i, i < 4 -> F (o + i) = dg m (3 - i)) (hm : m < 4294967296) : nm F o 4 = m := by
  have h0 := congrArg UInt8.toNat (h 0 (by omega))
  have h1 := congrArg UInt8.toNat (h 1 (by omega))
  have h2 := congrArg UInt8.toNat (h 2 (by omega))
  have h3 := congrArg UInt8.toNat (h 3 (by omega))
  rw [dg_toNat] at h0 h1 h2 h3
  rw [nm, nm, nm, nm, nm, h0, h1, h2, h3]
  simp
  omega
theorem enc_v {s : Sl} {v i : Nat} (hv : v < s.vn) (hi : i < 4) : enc s (12 + 4 * v + i) = dg (s.V v).toNat (3 - i) := by
  unfold enc
  rw [if_neg (by omega), if_neg (by omega), if_neg (by omega), if_neg (by omega), if_neg (by omega), if_neg (by omega), if_pos (by omega), show (12 + 4 * v + i - 12) / 4 = v by omega, show (12 + 4 * v + i - 12) % 4 = i by omega]
theorem enc_d (s : Sl) (j : Nat) : enc s (12 + 4 * s.vn + j) = s.D j := by
  unfold enc
  rw [if_neg (by omega), if_neg (by omega), if_neg (by omega), if_neg (by omega), if_neg (by omega), if_neg (by omega), if_neg (by omega), show 12 + 4 * s.vn + j - (12 + 4 * s.vn) = j by omega]
theorem enc_c (s : Sl) {i : Nat} (hi : i < 4) : enc s (4 + i) = dg s.ce.toNat (3 - i) := by
  unfold enc
  rw [if_neg (by omega), if_neg (by omega), if_neg (by omega), if_neg (by omega), if_pos (by omega), show 7 - (4 + i) = 3 - i by omega]
theorem enc_s (s : Sl) {i : Nat} (hi : i < 4) : enc s (8 + i) = dg s.st.toNat (3 - i) := by
  unfold enc
  rw [if_neg (by omega), if_neg (by omega), if_neg (by omega), if_neg (by omega), if_neg (by omega), if_pos (by omega), show 11 - (8 + i) = 3 - i by omega]
theorem dec_enc {N : Nat} {c : Int} {s : Sl} (hN : N <= 16) (h : okS N c s = true) {F : Nat -> UInt8} (hF : ∀ j, j < sz N c -> F j = enc s j) : sameS (dec N c F) s = true := by
  have hn := okS_nums h
  obtain ⟨⟨k1, k2⟩, k3, k4, k5, k6, k7, k8⟩ := okS_true h
  have hc : c.toNat = s.dn := by omega
  unfold sz at hF
  refine decide_eq_true ⟨hF 2 (by omega), ?_, ?_, ?_, k1.symm, hc, fun i hi => ?_, fun j hj => ?_⟩
  · show ((nm F 3 1 : Nat) : Int) = s.ix
    have h3 := congrArg UInt8.toNat (hF 3 (by omega))
    rw [show enc s 3 = dg s.ix.toNat 0 from rfl, dg_toNat] at h3
    rw [nm, nm, h3]
    simp
    omega
  · show ((nm F 4 4 : Nat) : Int) = s.ce
    rw [nm_dg (m := s.ce.toNat) (fun i hi => by rw [hF _ (by omega)]; exact enc_c s hi) (by omega)]
    omega
  · show ((nm F 8 4 : Nat) : Int) = s.st
    rw [nm_dg (m := s.st.toNat) (fun i hi => by rw [hF _ (by omega)]; exact enc_s s hi) (by omega)]
    omega
  · show ((nm F (12 + 4 * i) 4 : Nat) : Int) = s.V i
    have hi' : i < N := hi
    have := k2 i (by omega)
    rw [nm_dg (m := (s.V i).toNat) (fun t ht => by rw [hF _ (by omega)]; exact enc_v (by omega) ht) (by omega)]
    omega
  · show F (12 + 4 * N + j) = s.D j
    have hj' : j < c.toNat := hj
    rw [hF _ (by omega), <- k1]
    exact enc_d s j
theorem is_enc {N : Nat} {c : Int} {s : Sl} (hN : N <= 16) (h : okS N c s = true) {n : Nat} (hn : n = sz N c) {F : Nat -> UInt8} (hF : ∀ j, j < n -> F j = enc s j) : isS N c n F = true := by
  subst hn
  refine decide_eq_true ⟨rfl, ?_, ?_, okS_same (sameS_symm (dec_enc hN h hF)) h⟩
  · rw [hF 0 (by unfold sz; omega)]; rfl
  · rw [hF 1 (by unfold sz; omega)]; rfl
theorem is_true {N : Nat} {c : Int} {n : Nat} {F : Nat -> UInt8} (h : isS N c n F = true) : n = sz N c /\ F 0 = 84 /\ F 1 = 50 /\ okS N c (dec N c F) = true := of_decide_eq_true h
def upR (G : Nat -> UInt8) (o k : Nat) (H : Nat -> UInt8) : Nat -> UInt8 := fun j => if o <= j /\ j < o + k then H (j - o) else G j
theorem upR_in {G : Nat -> UInt8} {o k : Nat} {H : Nat -> UInt8} {j : Nat} (h : o <= j /\ j < o + k) : upR G o k H j = H (j - o) := if_pos h
theorem upR_out {G : Nat -> UInt8} {o k : Nat} {H : Nat -> UInt8} {j : Nat} (h : ¬ (o <= j /\ j < o + k)) : upR G o k H j = G j := if_neg h
end Go.Proofs.YtdmpiipllmjloaaGreat
namespace Go.Proofs.YtdmpiipllmjloaaGreat
open Go.RowKit
def RdU (w : World) (ao : Option Addr) (n : Nat) (F : Nat -> UInt8) : Prop :=
  0 < n -> ∃ b off, ao = some ⟨b, off, none⟩ /\ ∀ j, j < n -> w.cell? ⟨b, off + j, none⟩ = some (.int .u8 (((F j).toNat : Nat) : Int))
theorem RdU.below {w w' : World} {ao : Option Addr} {n : Nat} {F : Nat -> UInt8} (h : RdU w ao n F) (ho : Below w.heap.size w w') : RdU w' ao n F := by
  intro hn
  obtain ⟨b, off, rfl, hc⟩ := h hn
  exact ⟨b, off, rfl, fun i hi => held (hc i hi) ho⟩
theorem RdU.congr {w : World} {ao : Option Addr} {n : Nat} {F G : Nat -> UInt8} (h : RdU w ao n F) (e : ∀ i, i < n -> F i = G i) : RdU w ao n G := by
  intro hn
  obtain ⟨b, off, rfl, hc⟩ := h hn
  exact ⟨b, off, rfl, fun i hi => by rw [<- e i hi]; exact hc i hi⟩
structure Bec (w : World) (ao : Option Addr) (n cap : Nat) (F : Nat -> UInt8) : Prop where
  rd : RdU w ao n F
  nil : ao = none -> n = 0 /\ cap = 0
  room : n <= cap
theorem Bec.below {w w' : World} {ao : Option Addr} {n cap : Nat} {F : Nat -> UInt8} (h : Bec w ao n cap F) (ho : Below w.heap.size w w') : Bec w' ao n cap F := ⟨h.rd.below ho, h.nil, h.room⟩
theorem Bec.congr {w : World} {ao : Option Addr} {n cap : Nat} {F G : Nat -> UInt8} (h : Bec w ao n cap F) (e : ∀ i, i < n -> F i = G i) : Bec w ao n cap G := ⟨h.rd.congr e, h.nil, h.room⟩
theorem bec_nil (w : World) (F : Nat -> UInt8) : Bec w none 0 0 F := ⟨fun h => absurd h (Nat.lt_irrefl 0), fun _ => ⟨rfl, rfl⟩, Nat.le_refl _⟩
def byF (n : Nat) (F : Nat -> UInt8) : List Value := (List.range n).map fun i => .int .u8 (((F i).toNat : Nat) : Int)
theorem byF_length (k : Nat) (F : Nat -> UInt8) : (byF k F).length = k := by simp [byF]
theorem byF_get (k : Nat) (F : Nat -> UInt8) (i : Nat) (h : i < k) : (byF k F)[i]? = some (.int .u8 (((F i).toNat : Nat) : Int)) := by simp [byF, h]
theorem byF_congr {k : Nat} {F G : Nat -> UInt8} (h : ∀ i, i < k -> F i = G i) : byF k F = byF k G := by
  unfold byF
  apply List.map_congr_left
  intro i hi
  rw [h i (List.mem_range.1 hi)]
theorem byF_add (k m : Nat) (F : Nat -> UInt8) : byF (k + m) F = byF k F ++ byF m (fun i => F (k + i)) := by
  apply List.ext_getElem?
  intro i
  by_cases h : i < k
  · rw [List.getElem?_append_left (by rw [byF_length]; exact h), byF_get _ _ _ h, byF_get _ _ _ (by omega)]
  · rw [List.getElem?_append_right (by rw [byF_length]; omega), byF_length]
    by_cases h2 : i < k + m
    · rw [byF_get _ _ _ h2, byF_get _ _ _ (by omega), show k + (i - k) = i by omega]
    · rw [List.getElem?_eq_none (by rw [byF_length]; omega), List.getElem?_eq_none (by rw [byF_length]; omega)]
theorem byF_one (k : Nat) (F : Nat -> UInt8) : ∀ v ∈ byF k F, v.oneCell' = true := by
  intro v hv
  simp only [byF, List.mem_map] at hv
  obtain ⟨i, _, rfl⟩ := hv
  rfl
theorem byF_set {n i : Nat} (F : Nat -> UInt8) (u : UInt8) : (byF n F).set i (.int .u8 ((u.toNat : Nat) : Int)) = byF n (put i u F) := by
  apply List.ext_getElem?
  intro j
  rw [List.getElem?_set]
  by_cases hj : j < n
  · rw [byF_get n (put i u F) _ hj]
    by_cases e : i = j
    · subst e; rw [if_pos rfl, if_pos (by rw [byF_length]; exact hj), put_at]
    · rw [if_neg e, byF_get _ _ _ hj, put_ne _ _ (fun h => e h.symm)]
  · by_cases e : i = j
    · subst e; rw [if_pos rfl, if_neg (by rw [byF_length]; exact hj), List.getElem?_eq_none (by rw [byF_length]; omega)]
    · rw [if_neg e, List.getElem?_eq_none (by rw [byF_length]; omega), List.getElem?_eq_none (by rw [byF_length]; omega)]
theorem bec_news {w : World} {ad : Addr} {n cap : Nat} {F : Nat -> UInt8} (h : Bec w (some ad) n cap F) : ∀ j u, (byF n F)[j]? = some u -> w.cell? (ad.add j) = some u := by
  intro j u hu
  have hj : j < n := list_lt (byF_length n F) hu
  rw [byF_get _ _ _ hj] at hu
  obtain ⟨b, off, e, hc⟩ := h.rd (by omega)
  cases e
  rw [Addr.add_lit, hc j hj]; exact hu
def OwU (B : Nat) (w : World) (ao : Option Addr) (n cap : Nat) (F : Nat -> UInt8) : Prop := w.ownsRow B 5 1 (.slice ao n cap) n (byF n F)
theorem owu_nil (B : Nat) (w : World) (F : Nat -> UInt8) : OwU B w none 0 0 F := World.ownsRow_nil _ _ _ _
theorem OwU.congr {B : Nat} {w : World} {ao : Option Addr} {n cap : Nat} {F G : Nat -> UInt8} (h : OwU B w ao n cap F) (e : ∀ i, i < n -> F i = G i) : OwU B w ao n cap G := by
  unfold OwU at *; rw [<- byF_congr e]; exact h
theorem OwU.bec {B : Nat} {w : World} {ao : Option Addr} {n cap : Nat} {F : Nat -> UInt8} (h : OwU B w ao n cap F) : Bec w ao n cap F := by
  have h0 := h
  rcases h.2 with ⟨h1, h2⟩ | ⟨g, cap', cur, h1, _, _, h4, _⟩
  · cases h1; exact bec_nil _ _
  · cases h1
    refine ⟨fun hp => ⟨g, 0, rfl, fun i hi => ?_⟩, (fun e => by cases e), h4⟩
    have := World.ownsRow.cells h0 (g := g) rfl i _ (byF_get n F i hi)
    rwa [Addr.add_lit] at this
theorem OwU.stay {B : Nat} {w w' : World} {ao : Option Addr} {n cap : Nat} {F : Nat -> UInt8} (h : OwU B w ao n cap F) (hb : ∀ g, B <= g -> g < w.heap.size -> w'.heap[g]? = w.heap[g]?) : OwU B w' ao n cap F := by
  refine ⟨h.1, ?_⟩
  rcases h.2 with h1 | ⟨g, cap', cur, h1, h2, h3, h4⟩
  · exact .inl h1
  · exact .inr ⟨g, cap', cur, h1, h2, by rw [hb g h2 (Array.getElem?_eq_some_iff.1 h3).1]; exact h3, h4⟩
theorem OwU.below {B : Nat} {w w' : World} {ao : Option Addr} {n cap : Nat} {F : Nat -> UInt8} (h : OwU B w ao n cap F) (hb : Below w.heap.size w w') : OwU B w' ao n cap F := h.stay fun g _ hg => hb.block g hg
theorem OwU.mono {B B' : Nat} {w : World} {ao : Option Addr} {n cap : Nat} {F : Nat -> UInt8} (h : OwU B w ao n cap F) (hb : B' <= B) : OwU B' w ao n cap F := by
  refine ⟨h.1, ?_⟩
  rcases h.2 with h1 | ⟨g, cap', cur, h1, h2, h3⟩
  · exact .inl h1
  · exact .inr ⟨g, cap', cur, h1, by omega, h3⟩
theorem info5 : (Tryz.prog.info? 5).map (fun i => (i.zero, i.size, i.bytes)) = some (some (.int .u8 0), 1, 1) := by kernel_rfl
def Bk (w : World) (g n : Nat) (G : Nat -> UInt8) : Prop := w.heap[g]? = some (.cells (byF n G).toArray 5 (0, 0))
theorem Bk.lt {w : World} {g n : Nat} {G : Nat -> UInt8} (h : Bk w g n G) : g < w.heap.size := (Array.getElem?_eq_some_iff.1 h).1
theorem Bk.cell {w : World} {g n : Nat} {G : Nat -> UInt8} (h : Bk w g n G) {i : Nat} (hi : i < n) : w.cell? ⟨g, i, none⟩ = some (.int .u8 (((G i).toNat : Nat) : Int)) := by
  have := byF_get n G i hi
  unfold Bk at h
  simp [World.cell?, h, this]
theorem Bk.free {w : World} {g n : Nat} {G : Nat -> UInt8} (h : Bk w g n G) (i : Nat) : w.frozen? ⟨g, i, none⟩ = false := by
  unfold Bk at h
  simp [World.frozen?, h]
theorem Bk.set {w : World} {g n : Nat} {G : Nat -> UInt8} (h : Bk w g n G) (i : Nat) (u : UInt8) : Bk (w.setCell ⟨g, i, none⟩ (.int .u8 ((u.toNat : Nat) : Int))) g n (put i u G) := by
  unfold Bk at *
  rw [<- byF_set]
  simp [World.setCell, Array.getElem?_modify, h]
theorem Bk.congr {w : World} {g n : Nat} {G H : Nat -> UInt8} (h : Bk w g n G) (e : ∀ i, i < n -> G i = H i) : Bk w g n H := by
  unfold Bk at *; rw [<- byF_congr e]; exact h
theorem Bk.below {w w' : World} {g n : Nat} {G : Nat -> UInt8} (h : Bk w g n G) (ho : Below w.heap.size w w') : Bk w' g n G := (ho.block g h.lt).trans h
theorem Bk.own {w : World} {B g n : Nat} {G : Nat -> UInt8} (h : Bk w g n G) (hB : B <= g) (hn : n <= 1000) : OwU B w (some ⟨g, 0, none⟩) n n G := by
  refine ⟨by rw [byF_length, Nat.mul_one], .inr ⟨g, n, _, rfl, hB, h, Nat.le_refl _, by unfold maxLen; omega, by simp [byF_length], ?_⟩⟩
  rw [List.take_of_length_le (by rw [List.toList_toArray, byF_length]; omega)]
def lsF (n : Nat) (F : Nat -> UInt8) : List UInt8 := (List.range n).map F
theorem lsF_length (n : Nat) (F : Nat -> UInt8) : (lsF n F).length = n := by simp [lsF]
theorem lsF_get (n : Nat) (F : Nat -> UInt8) (j : Nat) (h : j < (lsF n F).length) : (lsF n F)[j] = F j := by simp [lsF]
def sOf (c : List UInt8) : ByteArray := ⟨c.toArray⟩
theorem conv_any {w : World} {ao : Option Addr} {n cp : Nat} {F : Nat -> UInt8} (h : Bec w ao n cp F) : (convert 55 9 (.slice ao n cp)).run Tryz.prog w = .ok (.string (sOf (lsF n F))) w := by
  by_cases hn : n = 0
  · subst hn
    cases ao with
    | none => exact run_convert_bytes_nil w 55 5 Tryz.underlying55 Tryz.underlying5 0 cp 9 Tryz.underlying9
    | some a => exact run_convert_bytes_back w 55 9 5 a cp [] Tryz.underlying55 Tryz.underlying5 Tryz.underlying9 (fun j hj => by simp at hj)
  · obtain ⟨b, off, rfl, hr⟩ := h.rd (by omega)
    have := run_convert_bytes_back (P := Tryz.prog) w 55 9 5 ⟨b, off, none⟩ cp (lsF n F) Tryz.underlying55 Tryz.underlying5 Tryz.underlying9 (fun j hj => by rw [Addr.add_lit, lsF_get]; exact hr j (by rw [lsF_length] at hj; exact hj))
    rw [lsF_length] at this
    exact this
theorem sOf_list (c : List UInt8) : (sOf c).toList = c := by rw [ByteArray.toList_eq]; rfl
def slv (s : Sl) (ao : Option Addr) (ca : Nat) (bo : Option Addr) (cb : Nat) : Value := .agg #[.int .u8 ((s.kd.toNat : Nat) : Int), .int .i64 s.ix, .int .i64 s.ce, .int .i64 s.st, .slice ao s.vn ca, .slice bo s.dn cb]
structure Has (w : World) (s : Sl) (ao : Option Addr) (ca : Nat) (bo : Option Addr) (cb : Nat) : Prop where
  vec : Vec w ao s.vn ca s.V
  bec : Bec w bo s.dn cb s.D
theorem Has.below {w w' : World} {s : Sl} {ao : Option Addr} {ca : Nat} {bo : Option Addr} {cb : Nat} (h : Has w s ao ca bo cb) (ho : Below w.heap.size w w') : Has w' s ao ca bo cb := ⟨h.vec.below ho, h.bec.below ho⟩
structure Got (B : Nat) (w : World) (s : Sl) (ao : Option Addr) (ca : Nat) (bo : Option Addr) (cb : Nat) : Prop where
  vec : Own B w ao s.vn ca s.V
  bec : OwU B w bo s.dn cb s.D
theorem Got.has {B : Nat} {w : World} {s : Sl} {ao : Option Addr} {ca : Nat} {bo : Option Addr} {cb : Nat} (h : Got B w s ao ca bo cb) : Has w s ao ca bo cb := ⟨h.vec.vec, h.bec.bec⟩
theorem Got.below {B : Nat} {w w' : World} {s : Sl} {ao : Option Addr} {ca : Nat} {bo : Option Addr} {cb : Nat} (h : Got B w s ao ca bo cb) (ho : Below w.heap.size w w') : Got B w' s ao ca bo cb := ⟨h.vec.below ho, h.bec.below ho⟩
theorem Got.mono {B B' : Nat} {w : World} {s : Sl} {ao : Option Addr} {ca : Nat} {bo : Option Addr} {cb : Nat} (h : Got B w s ao ca bo cb) (hb : B' <= B) : Got B' w s ao ca bo cb := ⟨h.vec.mono hb, h.bec.mono hb⟩
theorem got_z (B : Nat) (w : World) : Got B w zSl none 0 none 0 := ⟨own_nil _ _ _, owu_nil _ _ _⟩
theorem slo_held {w w0 w1 : World} {x0 x1 x2 x3 x4 x5 : Value} {t : TypeId} (h0 : w0 = w.alloc (.cells #[x0, x1, x2, x3, x4, x5] t)) (hb : Below w0.heap.size w0 w1) :
    w1.cell? ⟨w.heap.size, 0, none⟩ = some x0 /\ w1.cell? ⟨w.heap.size, 1, none⟩ = some x1 /\ w1.cell? ⟨w.heap.size, 2, none⟩ = some x2 /\ w1.cell? ⟨w.heap.size, 3, none⟩ = some x3 /\ w1.cell? ⟨w.heap.size, 4, none⟩ = some x4 /\ w1.cell? ⟨w.heap.size, 5, none⟩ = some x5 :=
  ⟨blk_held h0 hb 0 rfl, blk_held h0 hb 1 rfl, blk_held h0 hb 2 rfl, blk_held h0 hb 3 rfl, blk_held h0 hb 4 rfl, blk_held h0 hb 5 rfl⟩
def szE (x : Int) (N : Nat) (c : Int) : Nat := if x = 0 then sz N c else 0
theorem Par.cell {k r c q : Int} {N W : Nat} {e : Int} (h : Par k r c q N W e) (he : e = 0) : 8 <= c /\ c <= 64 := by
  rcases h with ⟨h, _, h0, _⟩ | ⟨_, _, h0, h1⟩
  · obtain ⟨h1, h2, h3, h4, h5, h6, h7, h8, h9⟩ := may_true h
    exact ⟨h5, h6⟩
  · omega
theorem Par.err {k r c q : Int} {N W : Nat} {e : Int} (h : Par k r c q N W e) : e = 0 \/ e = 2 := by rcases h with ⟨_, _, _, h⟩ | ⟨_, _, _, h⟩; exact .inl h; exact .inr h
end Go.Proofs.YtdmpiipllmjloaaGreat
