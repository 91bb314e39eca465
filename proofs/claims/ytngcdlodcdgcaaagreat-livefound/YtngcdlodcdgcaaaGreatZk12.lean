import Derived.Laws.BytesArg
import Derived.Laws.CopyOwn
import Derived.Laws.IdiomStrings
import Derived.Laws.Rows
import Derived.Deep.RegionLawGrows
import Derived.Lib.SliceRun
import Derived.BigQuiet
import Derived.StillTailTactics
import Derived.Laws.BitsAllLaws
import Derived.WalkMore
import Derived.Test.YtngcdlodcdgcaaaGreatZk11
namespace Go.Proofs.YtngcdlodcdgcaaaGreat
structure Sl where
  kd : UInt8
  ix : Int
  ce : Int
  st : Int
  vn : Nat
  V : Nat -> Int
  dn : Nat
  D : Nat -> UInt8
def zSl : Sl := ⟨0, 0, 0, 0, 0, fun _ => 0, 0, fun _ => 0⟩
def okS (N : Nat) (c : Int) (s : Sl) : Bool := decide ((s.vn = N /\ ∀ i, i < s.vn -> 1 <= s.V i /\ s.V i <= 1073741824) /\ (s.kd = 1 \/ s.kd = 2) /\ 0 <= s.ix /\ s.ix < (s.vn : Int) /\ (s.dn : Int) = c /\ s.st = mx s.V s.vn /\ s.ce = s.V s.ix.toNat)
def sz (N : Nat) (c : Int) : Nat := 12 + 4 * N + c.toNat
def nm (F : Nat -> UInt8) (o : Nat) : Nat -> Nat
  | 0 => 0
  | k + 1 => nm F o k * 256 + (F (o + k)).toNat
theorem nm_lt (F : Nat -> UInt8) (o : Nat) : ∀ k, nm F o k < 256 ^ k
  | 0 => by rw [nm]; decide
  | k + 1 => by
    have h := nm_lt F o k
    have h2 : (F (o + k)).toNat < 256 := (F (o + k)).toNat_lt
    rw [nm, Nat.pow_succ]
    omega
theorem nm_congr {F G : Nat -> UInt8} {o p : Nat} : ∀ {k : Nat}, (∀ i, i < k -> F (o + i) = G (p + i)) -> nm F o k = nm G p k
  | 0, _ => rfl
  | k + 1, h => by rw [nm, nm, nm_congr (k := k) (fun i hi => h i (by omega)), h k (by omega)]
def dec (N : Nat) (c : Int) (F : Nat -> UInt8) : Sl := ⟨F 2, nm F 3 1, nm F 4 4, nm F 8 4, N, fun i => nm F (12 + 4 * i) 4, c.toNat, fun j => F (12 + 4 * N + j)⟩
def isS (N : Nat) (c : Int) (n : Nat) (F : Nat -> UInt8) : Bool := decide (n = sz N c /\ F 0 = 84 /\ F 1 = 50 /\ okS N c (dec N c F) = true)
theorem okS_true {N : Nat} {c : Int} {s : Sl} (h : okS N c s = true) : (s.vn = N /\ ∀ i, i < s.vn -> 1 <= s.V i /\ s.V i <= 1073741824) /\ (s.kd = 1 \/ s.kd = 2) /\ 0 <= s.ix /\ s.ix < (s.vn : Int) /\ (s.dn : Int) = c /\ s.st = mx s.V s.vn /\ s.ce = s.V s.ix.toNat := of_decide_eq_true h
theorem mx_bd {R : Nat -> Int} : ∀ {n : Nat}, (∀ i, i < n -> 1 <= R i /\ R i <= 1073741824) -> 0 <= mx R n /\ mx R n <= 1073741824
  | 0, _ => by rw [mx]; omega
  | n + 1, h => by
    have := mx_bd (n := n) (fun i hi => h i (by omega))
    have := h n (by omega)
    rw [mx, gr]
    split <;> omega
theorem okS_nums {N : Nat} {c : Int} {s : Sl} (h : okS N c s = true) : (1 <= s.ce /\ s.ce <= 1073741824) /\ 0 <= s.st /\ s.st <= 1073741824 := by
  obtain ⟨⟨k1, k2⟩, k3, k4, k5, k6, k7, k8⟩ := okS_true h
  have h1 := k2 s.ix.toNat (by omega)
  have h2 := mx_bd k2
  omega
theorem is_true {N : Nat} {c : Int} {n : Nat} {F : Nat -> UInt8} (h : isS N c n F = true) : n = sz N c /\ F 0 = 84 /\ F 1 = 50 /\ okS N c (dec N c F) = true := of_decide_eq_true h
def upR (G : Nat -> UInt8) (o k : Nat) (H : Nat -> UInt8) : Nat -> UInt8 := fun j => if o <= j /\ j < o + k then H (j - o) else G j
theorem upR_in {G : Nat -> UInt8} {o k : Nat} {H : Nat -> UInt8} {j : Nat} (h : o <= j /\ j < o + k) : upR G o k H j = H (j - o) := if_pos h
theorem upR_out {G : Nat -> UInt8} {o k : Nat} {H : Nat -> UInt8} {j : Nat} (h : ¬ (o <= j /\ j < o + k)) : upR G o k H j = G j := if_neg h
end Go.Proofs.YtngcdlodcdgcaaaGreat
namespace Go.Proofs.YtngcdlodcdgcaaaGreat
open Go.RowKit
def RdU (w : World) (ao : Option Addr) (n : Nat) (F : Nat -> UInt8) : Prop :=
  0 < n -> ∃ b off, ao = some ⟨b, off, none⟩ /\ ∀ j, j < n -> w.cell? ⟨b, off + j, none⟩ = some (.int .u8 (((F j).toNat : Nat) : Int))
theorem RdU.below {w w' : World} {ao : Option Addr} {n : Nat} {F : Nat -> UInt8} (h : RdU w ao n F) (ho : Below w.heap.size w w') : RdU w' ao n F := by
  intro hn
  obtain ⟨b, off, rfl, hc⟩ := h hn
  exact ⟨b, off, rfl, fun i hi => held (hc i hi) ho⟩
theorem RdU.congr {w : World} {ao : Option Addr} {n : Nat} {F G : Nat -> UInt8} (h : RdU w ao n F) (e : ∀ i, i < n -> F i = G i) : RdU w ao n G := by
  intro hn
  obtain ⟨b, off, rfl, hc⟩ := h hn
  exact ⟨b, off, rfl, fun i hi => by rw [<- e i hi]; exact hc i hi⟩
structure Bec (w : World) (ao : Option Addr) (n cap : Nat) (F : Nat -> UInt8) : Prop where
  rd : RdU w ao n F
  nil : ao = none -> n = 0 /\ cap = 0
  room : n <= cap
theorem Bec.below {w w' : World} {ao : Option Addr} {n cap : Nat} {F : Nat -> UInt8} (h : Bec w ao n cap F) (ho : Below w.heap.size w w') : Bec w' ao n cap F := ⟨h.rd.below ho, h.nil, h.room⟩
theorem Bec.congr {w : World} {ao : Option Addr} {n cap : Nat} {F G : Nat -> UInt8} (h : Bec w ao n cap F) (e : ∀ i, i < n -> F i = G i) : Bec w ao n cap G := ⟨h.rd.congr e, h.nil, h.room⟩
theorem bec_nil (w : World) (F : Nat -> UInt8) : Bec w none 0 0 F := ⟨fun h => absurd h (Nat.lt_irrefl 0), fun _ => ⟨rfl, rfl⟩, Nat.le_refl _⟩
def byF (n : Nat) (F : Nat -> UInt8) : List Value := (List.range n).map fun i => .int .u8 (((F i).toNat : Nat) : Int)
theorem byF_length (k : Nat) (F : Nat -> UInt8) : (byF k F).length = k := by simp [byF]
theorem byF_get (k : Nat) (F : Nat -> UInt8) (i : Nat) (h : i < k) : (byF k F)[i]? = some (.int .u8 (((F i).toNat : Nat) : Int)) := by simp [byF, h]
theorem byF_congr {k : Nat} {F G : Nat -> UInt8} (h : ∀ i, i < k -> F i = G i) : byF k F = byF k G := by
  unfold byF
  apply List.map_congr_left
  intro i hi
  rw [h i (List.mem_range.1 hi)]
theorem byF_add (k m : Nat) (F : Nat -> UInt8) : byF (k + m) F = byF k F ++ byF m (fun i => F (k + i)) := by
  apply List.ext_getElem?
  intro i
  by_cases h : i < k
  · rw [List.getElem?_append_left (by rw [byF_length]; exact h), byF_get _ _ _ h, byF_get _ _ _ (by omega)]
  · rw [List.getElem?_append_right (by rw [byF_length]; omega), byF_length]
    by_cases h2 : i < k + m
    · rw [byF_get _ _ _ h2, byF_get _ _ _ (by omega), show k + (i - k) = i by omega]
    · rw [List.getElem?_eq_none (by rw [byF_length]; omega), List.getElem?_eq_none (by rw [byF_length]; omega)]
theorem byF_one (k : Nat) (F : Nat -> UInt8) : ∀ v ∈ byF k F, v.oneCell' = true := by
  intro v hv
  simp only [byF, List.mem_map] at hv
  obtain ⟨i, _, rfl⟩ := hv
  rfl
theorem bec_news {w : World} {ad : Addr} {n cap : Nat} {F : Nat -> UInt8} (h : Bec w (some ad) n cap F) : ∀ j u, (byF n F)[j]? = some u -> w.cell? (ad.add j) = some u := by
  intro j u hu
  have hj : j < n := list_lt (byF_length n F) hu
  rw [byF_get _ _ _ hj] at hu
  obtain ⟨b, off, e, hc⟩ := h.rd (by omega)
  cases e
  rw [Addr.add_lit, hc j hj]; exact hu
def OwU (B : Nat) (w : World) (ao : Option Addr) (n cap : Nat) (F : Nat -> UInt8) : Prop := w.ownsRow B 5 1 (.slice ao n cap) n (byF n F)
theorem owu_nil (B : Nat) (w : World) (F : Nat -> UInt8) : OwU B w none 0 0 F := World.ownsRow_nil _ _ _ _
theorem OwU.bec {B : Nat} {w : World} {ao : Option Addr} {n cap : Nat} {F : Nat -> UInt8} (h : OwU B w ao n cap F) : Bec w ao n cap F := by
  have h0 := h
  rcases h.2 with ⟨h1, h2⟩ | ⟨g, cap', cur, h1, _, _, h4, _⟩
  · cases h1; exact bec_nil _ _
  · cases h1
    refine ⟨fun hp => ⟨g, 0, rfl, fun i hi => ?_⟩, (fun e => by cases e), h4⟩
    have := World.ownsRow.cells h0 (g := g) rfl i _ (byF_get n F i hi)
    rwa [Addr.add_lit] at this
theorem OwU.stay {B : Nat} {w w' : World} {ao : Option Addr} {n cap : Nat} {F : Nat -> UInt8} (h : OwU B w ao n cap F) (hb : ∀ g, B <= g -> g < w.heap.size -> w'.heap[g]? = w.heap[g]?) : OwU B w' ao n cap F := by
  refine ⟨h.1, ?_⟩
  rcases h.2 with h1 | ⟨g, cap', cur, h1, h2, h3, h4⟩
  · exact .inl h1
  · exact .inr ⟨g, cap', cur, h1, h2, by rw [hb g h2 (Array.getElem?_eq_some_iff.1 h3).1]; exact h3, h4⟩
theorem OwU.below {B : Nat} {w w' : World} {ao : Option Addr} {n cap : Nat} {F : Nat -> UInt8} (h : OwU B w ao n cap F) (hb : Below w.heap.size w w') : OwU B w' ao n cap F := h.stay fun g _ hg => hb.block g hg
theorem OwU.mono {B B' : Nat} {w : World} {ao : Option Addr} {n cap : Nat} {F : Nat -> UInt8} (h : OwU B w ao n cap F) (hb : B' <= B) : OwU B' w ao n cap F := by
  refine ⟨h.1, ?_⟩
  rcases h.2 with h1 | ⟨g, cap', cur, h1, h2, h3⟩
  · exact .inl h1
  · exact .inr ⟨g, cap', cur, h1, by omega, h3⟩
theorem info5 : (Tryz.prog.info? 5).map (fun i => (i.zero, i.size, i.bytes)) = some (some (.int .u8 0), 1, 1) := by kernel_rfl
def Bk (w : World) (g n : Nat) (G : Nat -> UInt8) : Prop := w.heap[g]? = some (.cells (byF n G).toArray 5 (0, 0))
theorem Bk.lt {w : World} {g n : Nat} {G : Nat -> UInt8} (h : Bk w g n G) : g < w.heap.size := (Array.getElem?_eq_some_iff.1 h).1
theorem Bk.congr {w : World} {g n : Nat} {G H : Nat -> UInt8} (h : Bk w g n G) (e : ∀ i, i < n -> G i = H i) : Bk w g n H := by
  unfold Bk at *; rw [<- byF_congr e]; exact h
theorem Bk.below {w w' : World} {g n : Nat} {G : Nat -> UInt8} (h : Bk w g n G) (ho : Below w.heap.size w w') : Bk w' g n G := (ho.block g h.lt).trans h
theorem Bk.own {w : World} {B g n : Nat} {G : Nat -> UInt8} (h : Bk w g n G) (hB : B <= g) (hn : n <= 1000) : OwU B w (some ⟨g, 0, none⟩) n n G := by
  refine ⟨by rw [byF_length, Nat.mul_one], .inr ⟨g, n, _, rfl, hB, h, Nat.le_refl _, by unfold maxLen; omega, by simp [byF_length], ?_⟩⟩
  rw [List.take_of_length_le (by rw [List.toList_toArray, byF_length]; omega)]
def lsF (n : Nat) (F : Nat -> UInt8) : List UInt8 := (List.range n).map F
theorem lsF_length (n : Nat) (F : Nat -> UInt8) : (lsF n F).length = n := by simp [lsF]
theorem lsF_get (n : Nat) (F : Nat -> UInt8) (j : Nat) (h : j < (lsF n F).length) : (lsF n F)[j] = F j := by simp [lsF]
def sOf (c : List UInt8) : ByteArray := ⟨c.toArray⟩
theorem conv_any {w : World} {ao : Option Addr} {n cp : Nat} {F : Nat -> UInt8} (h : Bec w ao n cp F) : (convert 74 9 (.slice ao n cp)).run Tryz.prog w = .ok (.string (sOf (lsF n F))) w := by
  by_cases hn : n = 0
  · subst hn
    cases ao with
    | none => exact run_convert_bytes_nil w 74 5 Tryz.underlying74 Tryz.underlying5 0 cp 9 Tryz.underlying9
    | some a => exact run_convert_bytes_back w 74 9 5 a cp [] Tryz.underlying74 Tryz.underlying5 Tryz.underlying9 (fun j hj => by simp at hj)
  · obtain ⟨b, off, rfl, hr⟩ := h.rd (by omega)
    have := run_convert_bytes_back (P := Tryz.prog) w 74 9 5 ⟨b, off, none⟩ cp (lsF n F) Tryz.underlying74 Tryz.underlying5 Tryz.underlying9 (fun j hj => by rw [Addr.add_lit, lsF_get]; exact hr j (by rw [lsF_length] at hj; exact hj))
    rw [lsF_length] at this
    exact this
theorem sOf_list (c : List UInt8) : (sOf c).toList = c := by rw [ByteArray.toList_eq]; rfl
def slv (s : Sl) (ao : Option Addr) (ca : Nat) (bo : Option Addr) (cb : Nat) : Value := .agg #[.int .u8 ((s.kd.toNat : Nat) : Int), .int .i64 s.ix, .int .i64 s.ce, .int .i64 s.st, .slice ao s.vn ca, .slice bo s.dn cb]
structure Has (w : World) (s : Sl) (ao : Option Addr) (ca : Nat) (bo : Option Addr) (cb : Nat) : Prop where
  vec : Vec w ao s.vn ca s.V
  bec : Bec w bo s.dn cb s.D
structure Got (B : Nat) (w : World) (s : Sl) (ao : Option Addr) (ca : Nat) (bo : Option Addr) (cb : Nat) : Prop where
  vec : Own B w ao s.vn ca s.V
  bec : OwU B w bo s.dn cb s.D
theorem Got.has {B : Nat} {w : World} {s : Sl} {ao : Option Addr} {ca : Nat} {bo : Option Addr} {cb : Nat} (h : Got B w s ao ca bo cb) : Has w s ao ca bo cb := ⟨h.vec.vec, h.bec.bec⟩
theorem Got.below {B : Nat} {w w' : World} {s : Sl} {ao : Option Addr} {ca : Nat} {bo : Option Addr} {cb : Nat} (h : Got B w s ao ca bo cb) (ho : Below w.heap.size w w') : Got B w' s ao ca bo cb := ⟨h.vec.below ho, h.bec.below ho⟩
theorem Got.mono {B B' : Nat} {w : World} {s : Sl} {ao : Option Addr} {ca : Nat} {bo : Option Addr} {cb : Nat} (h : Got B w s ao ca bo cb) (hb : B' <= B) : Got B' w s ao ca bo cb := ⟨h.vec.mono hb, h.bec.mono hb⟩
theorem got_z (B : Nat) (w : World) : Got B w zSl none 0 none 0 := ⟨own_nil _ _ _, owu_nil _ _ _⟩
theorem slo_held {w w0 w1 : World} {x0 x1 x2 x3 x4 x5 : Value} {t : TypeId} (h0 : w0 = w.alloc (.cells #[x0, x1, x2, x3, x4, x5] t)) (hb : Below w0.heap.size w0 w1) :
    w1.cell? ⟨w.heap.size, 0, none⟩ = some x0 /\ w1.cell? ⟨w.heap.size, 1, none⟩ = some x1 /\ w1.cell? ⟨w.heap.size, 2, none⟩ = some x2 /\ w1.cell? ⟨w.heap.size, 3, none⟩ = some x3 /\ w1.cell? ⟨w.heap.size, 4, none⟩ = some x4 /\ w1.cell? ⟨w.heap.size, 5, none⟩ = some x5 :=
  ⟨blk_held h0 hb 0 rfl, blk_held h0 hb 1 rfl, blk_held h0 hb 2 rfl, blk_held h0 hb 3 rfl, blk_held h0 hb 4 rfl, blk_held h0 hb 5 rfl⟩
def szE (x : Int) (N : Nat) (c : Int) : Nat := if x = 0 then sz N c else 0
theorem Par.cell {k r c q : Int} {N W : Nat} {e : Int} (h : Par k r c q N W e) (he : e = 0) : 8 <= c /\ c <= 64 := by
  rcases h with ⟨h, _, h0, _⟩ | ⟨_, _, h0, h1⟩
  · obtain ⟨h1, h2, h3, h4, h5, h6, h7, h8, h9⟩ := may_true h
    exact ⟨h5, h6⟩
  · omega
theorem Par.err {k r c q : Int} {N W : Nat} {e : Int} (h : Par k r c q N W e) : e = 0 \/ e = 2 := by rcases h with ⟨_, _, _, h⟩ | ⟨_, _, _, h⟩; exact .inl h; exact .inr h
end Go.Proofs.YtngcdlodcdgcaaaGreat
namespace Go.Proofs.YtngcdlodcdgcaaaGreat
open Go.RowKit
set_option maxHeartbeats 400000 in
set_option maxRecDepth 100000 in
theorem Size_any {k r c q : Int} {N W : Nat} {x : Int} (h : Par k r c q N W x) (w : World) :
    Calls Tryz.prog 63 #[.agg #[.int .i64 k, .int .i64 r, .int .i64 c, .int .i64 q]] w fun e w' => e = .returned (.tuple #[.int .i64 ((szE x N c : Nat) : Int), .int .i64 x]) /\ Below w.heap.size w w' := by
  have HD := fun w => Drives_any h w
  have hN := h.few
  have hc := fun e => h.cell e
  have hx := h.err
  clear h
  obtain ⟨w0, hw0⟩ : ∃ w0, w0 = w.alloc (.cells #[.int .i64 k, .int .i64 r, .int .i64 c, .int .i64 q] 23) := ⟨_, rfl⟩
  have b0 : Below w.heap.size w w0 := by rw [hw0]; exact below_alloc _ _
  rcases hx with rfl | rfl
  · have hc' := hc rfl
    clear hc
    have HE : Hid (12 + 4 * (N : Int) + c = ((szE 0 N c : Nat) : Int)) := by show _ = _; unfold szE sz; rw [if_pos rfl]; omega
    go_enter Tryz.func63, Tryz.ntmps63
    go_wp2_with fail
    rw [<- hw0]
    refine (HD _).mono ?_
    rintro e wa ⟨rfl, ha⟩
    obtain ⟨s0, s1, s2, s3⟩ := par_held hw0 ha
    have hb := below_then b0 ha
    clear hw0
    go_wp2_with fail
    go_ret2
    exact ⟨by rw [<- HE.out]; rfl, hb⟩
  · have HE : Hid (szE 2 N c = 0) := by show _ = _; unfold szE; rw [if_neg (by decide)]
    go_enter Tryz.func63, Tryz.ntmps63
    go_wp2_with fail
    rw [<- hw0]
    refine (HD _).mono ?_
    rintro e wa ⟨rfl, ha⟩
    have hb := below_then b0 ha
    clear hw0
    go_wp2_with fail
    go_ret2
    exact ⟨by rw [HE.out]; rfl, hb⟩
theorem kd_one (u : UInt8) : ((u.toNat : Nat) : Int) = 1 ↔ u = 1 := by
  constructor
  · intro h; exact UInt8.toNat_inj.1 (by have : (1 : UInt8).toNat = 1 := rfl; omega)
  · rintro rfl; rfl
theorem kd_two (u : UInt8) : ((u.toNat : Nat) : Int) = 2 ↔ u = 2 := by
  constructor
  · intro h; exact UInt8.toNat_inj.1 (by have : (2 : UInt8).toNat = 2 := rfl; omega)
  · rintro rfl; rfl
set_option maxHeartbeats 2000000 in
set_option maxRecDepth 100000 in
theorem mayBe_any {k r c q : Int} {N W : Nat} (h : Par k r c q N W 0) (w : World) (s : Sl) (ao : Option Addr) (ca : Nat) (bo : Option Addr) (cb : Nat) (hs : Has w s ao ca bo cb) (y : Bool) (hy : okS N c s = y) :
    Calls Tryz.prog 66 #[.agg #[.int .i64 k, .int .i64 r, .int .i64 c, .int .i64 q], slv s ao ca bo cb] w fun e w' => e = .returned (.bool y) /\ Below w.heap.size w w' := by
  obtain ⟨E, hE⟩ : ∃ E, erV 0 N s.vn s.V = E := ⟨_, rfl⟩
  have HL := fun w (hv : Vec w ao s.vn ca s.V) => Last_any h w ao s.vn ca s.V hv E hE
  have hN := h.few
  obtain ⟨kd, ix, ce, st, vn, V, dn, D⟩ := s
  simp only [slv] at *
  have HV : Hid (Vec w ao vn ca V) := hs.vec
  obtain ⟨kn, hkn⟩ : ∃ kn : Int, kn = ((kd.toNat : Nat) : Int) := ⟨_, rfl⟩
  have HK : Hid (decide (kd = 1 \/ kd = 2) = decide (kn = 1 \/ kn = 2)) := by
    show _ = _
    apply decide_eq_decide.2
    rw [hkn, kd_one, kd_two]
  have HO : Hid (okS N c ⟨kd, ix, ce, st, vn, V, dn, D⟩ = y) := hy
  rw [<- hkn]
  clear hkn hs h hy
  obtain ⟨w0, hw0⟩ : ∃ w0, w0 = w.alloc (.cells #[.int .i64 k, .int .i64 r, .int .i64 c, .int .i64 q] 23) := ⟨_, rfl⟩
  obtain ⟨w1, hw1⟩ : ∃ w1, w1 = w0.alloc (.cells #[.int .u8 kn, .int .i64 ix, .int .i64 ce, .int .i64 st, .slice ao vn ca, .slice bo dn cb] 83) := ⟨_, rfl⟩
  have b0 : Below w.heap.size w w0 := by rw [hw0]; exact below_alloc _ _
  have b1 : Below w0.heap.size w0 w1 := by rw [hw1]; exact below_alloc _ _
  have z0 : w0.heap.size = w.heap.size + 1 := by rw [hw0]; simp
  unfold TellI at HL
  by_cases h1 : E = 0
  · subst h1
    obtain ⟨_, h3, h4⟩ := erV_of hE
    rw [if_pos rfl] at HL
    have HVV : Hid (∀ i, i < vn -> 1 <= V i /\ V i <= 1073741824) := h4
    obtain ⟨m, hm⟩ : ∃ m, mx V vn = m := ⟨_, rfl⟩
    rw [hm] at HL
    have HM : Hid (mx V vn = m) := hm
    have HN : Hid (vn = N) := h3
    clear hm h4 hE h3
    by_cases hk : kn = 1 \/ kn = 2
    · by_cases hi : 0 <= ix /\ ix < (vn : Int)
      · by_cases hd : (dn : Int) = c
        · have HY : Hid (y = decide (st = m /\ ce = V ix.toNat)) := by
            show _ = _
            rw [<- HO.out]
            unfold okS
            apply decide_eq_decide.2
            simp only
            rw [HM.out]
            constructor
            · rintro ⟨_, _, _, _, _, p, q⟩; exact ⟨p, q⟩
            · rintro ⟨p, q⟩; exact ⟨⟨HN.out, HVV.out⟩, of_decide_eq_true (by rw [HK.out]; exact decide_eq_true hk), hi.1, hi.2, hd, p, q⟩
          go_enter Tryz.func66, Tryz.ntmps66
          go_wp2_with fail
          rw [<- hw0, <- hw1]
          refine (HL _ (HV.out.below (below_then b0 b1))).mono ?_
          rintro e wa ⟨rfl, ha⟩
          obtain ⟨s0, s1, s2, s3⟩ := par_held hw0 (below_then b1 ha)
          obtain ⟨m0, m1, m2, m3, m4, m5⟩ := slo_held hw1 ha
          rw [z0] at m0 m1 m2 m3 m4 m5
          have hb := below_then (below_then b0 b1) ha
          obtain ⟨b, off, rfl, hcc⟩ := (HV.out.below hb).rd (by omega)
          have ck := hcc ix.toNat (by omega)
          obtain ⟨t, ht⟩ : ∃ t : Nat, ix = (t : Int) := ⟨ix.toNat, by omega⟩
          subst ht
          rw [Int.toNat_natCast] at ck
          obtain ⟨vt, hvt⟩ : ∃ vt, V t = vt := ⟨_, rfl⟩
          rw [hvt] at ck
          have HT : Hid (V t = vt) := hvt
          have HBB : Hid (Below w.heap.size w wa) := hb
          clear hw0 hw1 hb ha b0 b1 z0 hcc hvt HL
          rcases hk with rfl | rfl
          all_goals (
            go_wp2_with fail
            by_cases hst : st = m
            · go_quiet (fail)
              go_wp2
              go_ret
              refine ⟨ret_bool ?_, HBB.out.trans (below_drewN _ _ _)⟩
              rw [HY.out, Int.toNat_natCast, HT.out]
              by_cases hce : ce = vt
              · rw [decide_eq_true (show st = m /\ ce = vt from ⟨hst, hce⟩)]; simp [hce]
              · rw [decide_eq_false (show ¬ (st = m /\ ce = vt) from fun h => hce h.2)]; simp [hce]
            · go_quiet (fail)
              go_wp2
              go_ret
              refine ⟨ret_bool ?_, HBB.out.trans (below_drewN _ _ _)⟩
              rw [HY.out, decide_eq_false (show ¬ (st = m /\ ce = V (t : Int).toNat) from fun h => hst h.1)])
        · have HY : Hid (y = false) := by
            show _ = _
            rw [<- HO.out]
            exact decide_eq_false fun ⟨p1, p2, p3, p4, p5, p6, p7⟩ => hd p5
          have hd2 : ((dn : Int) != c) = true := by simpa using hd
          go_enter Tryz.func66, Tryz.ntmps66
          go_wp2_with fail
          rw [<- hw0, <- hw1]
          refine (HL _ (HV.out.below (below_then b0 b1))).mono ?_
          rintro e wa ⟨rfl, ha⟩
          obtain ⟨s0, s1, s2, s3⟩ := par_held hw0 (below_then b1 ha)
          obtain ⟨m0, m1, m2, m3, m4, m5⟩ := slo_held hw1 ha
          rw [z0] at m0 m1 m2 m3 m4 m5
          have HBB : Hid (Below w.heap.size w wa) := below_then (below_then b0 b1) ha
          clear hw0 hw1 ha b0 b1 z0 HL
          rcases hk with rfl | rfl
          all_goals (
            go_wp2_with fail
            go_ret
            exact ⟨ret_bool HY.out.symm, HBB.out⟩)
      · have HY : Hid (y = false) := by
          show _ = _
          rw [<- HO.out]
          exact decide_eq_false fun ⟨p1, p2, p3, p4, p5, p6, p7⟩ => hi ⟨p3, p4⟩
        go_enter Tryz.func66, Tryz.ntmps66
        go_wp2_with fail
        rw [<- hw0, <- hw1]
        refine (HL _ (HV.out.below (below_then b0 b1))).mono ?_
        rintro e wa ⟨rfl, ha⟩
        obtain ⟨s0, s1, s2, s3⟩ := par_held hw0 (below_then b1 ha)
        obtain ⟨m0, m1, m2, m3, m4, m5⟩ := slo_held hw1 ha
        rw [z0] at m0 m1 m2 m3 m4 m5
        have HBB : Hid (Below w.heap.size w wa) := below_then (below_then b0 b1) ha
        clear hw0 hw1 ha b0 b1 z0 HL
        have hi2 : ix < 0 \/ (0 <= ix /\ (vn : Int) <= ix) := by omega
        clear hi
        rcases hk with rfl | rfl <;> rcases hi2 with hi2 | ⟨hi2, hi3⟩
        all_goals (
          go_wp2_with fail
          go_ret
          exact ⟨ret_bool HY.out.symm, HBB.out⟩)
    · have HY : Hid (y = false) := by
        show _ = _
        rw [<- HO.out]
        exact decide_eq_false fun ⟨p1, p2, p3, p4, p5, p6, p7⟩ => hk (of_decide_eq_true (by rw [<- HK.out]; exact decide_eq_true p2))
      have hk1 : ¬ kn = 1 := fun h => hk (.inl h)
      have hk2 : ¬ kn = 2 := fun h => hk (.inr h)
      have hk3 : (kn != 1) = true := by simpa using hk1
      have hk4 : (kn != 2) = true := by simpa using hk2
      clear hk
      go_enter Tryz.func66, Tryz.ntmps66
      go_wp2_with fail
      rw [<- hw0, <- hw1]
      refine (HL _ (HV.out.below (below_then b0 b1))).mono ?_
      rintro e wa ⟨rfl, ha⟩
      obtain ⟨s0, s1, s2, s3⟩ := par_held hw0 (below_then b1 ha)
      obtain ⟨m0, m1, m2, m3, m4, m5⟩ := slo_held hw1 ha
      rw [z0] at m0 m1 m2 m3 m4 m5
      have HBB : Hid (Below w.heap.size w wa) := below_then (below_then b0 b1) ha
      clear hw0 hw1 ha b0 b1 z0 HL
      go_wp2_with fail
      go_ret
      exact ⟨ret_bool HY.out.symm, HBB.out⟩
  · have hne : (E != 0) = true := by simpa using h1
    rw [if_neg h1] at HL
    have HY : Hid (y = false) := by
      show _ = _
      rw [<- HO.out]
      exact decide_eq_false fun ⟨p1, p2, p3, p4, p5, p6, p7⟩ => h1 (by rw [<- hE]; exact erV_ok p1.1 p1.2)
    clear hE
    go_enter Tryz.func66, Tryz.ntmps66
    go_wp2_with fail
    rw [<- hw0, <- hw1]
    refine (HL _ (HV.out.below (below_then b0 b1))).mono ?_
    rintro e wa ⟨rfl, ha⟩
    obtain ⟨s0, s1, s2, s3⟩ := par_held hw0 (below_then b1 ha)
    obtain ⟨m0, m1, m2, m3, m4, m5⟩ := slo_held hw1 ha
    rw [z0] at m0 m1 m2 m3 m4 m5
    have HBB : Hid (Below w.heap.size w wa) := below_then (below_then b0 b1) ha
    clear hw0 hw1 ha b0 b1 z0 HL
    go_wp2_with fail
    go_ret
    exact ⟨ret_bool HY.out.symm, HBB.out⟩
end Go.Proofs.YtngcdlodcdgcaaaGreat
namespace Go.Proofs.YtngcdlodcdgcaaaGreat
open Go.RowKit
structure Only (X : Nat -> Prop) (w w' : World) : Prop where
  os : w'.os = w.os
  tape : w'.tape = w.tape
  output : w'.output = w.output
  size : w.heap.size <= w'.heap.size
  block : ∀ b, b < w.heap.size -> ¬ X b -> w'.heap[b]? = w.heap[b]?
theorem Only.refl (X : Nat -> Prop) (w : World) : Only X w w := ⟨rfl, rfl, rfl, Nat.le_refl _, fun _ _ _ => rfl⟩
theorem Only.trans {X : Nat -> Prop} {a b c : World} (h : Only X a b) (k : Only X b c) : Only X a c :=
  ⟨k.os.trans h.os, k.tape.trans h.tape, k.output.trans h.output, Nat.le_trans h.size k.size, fun i hi hx => (k.block i (Nat.lt_of_lt_of_le hi h.size) hx).trans (h.block i hi hx)⟩
theorem Only.of_below {X : Nat -> Prop} {a b : World} (h : Below a.heap.size a b) : Only X a b := ⟨h.os, h.tape, h.output, h.size, fun i hi _ => h.block i hi⟩
theorem Only.below {X : Nat -> Prop} {B : Nat} {a b : World} (h : Only X a b) (k : ∀ i, X i -> B <= i) (hB : B <= a.heap.size) : Below B a b := ⟨h.os, h.tape, h.output, h.size, fun i hi => h.block i (by omega) fun hx => by have := k i hx; omega⟩
theorem Only.setCell {X : Nat -> Prop} {a b : World} (h : Only X a b) {p : Addr} (hp : X p.block) (v : Value) : Only X a (b.setCell p v) :=
  h.trans ⟨rfl, rfl, rfl, by simp [World.setCell], fun i _ hx => Below.heap_setCell _ _ _ _ (fun e => hx (e ▸ hp))⟩
theorem Only.alloc {X : Nat -> Prop} {a b : World} (h : Only X a b) (o : Obj) : Only X a (b.alloc o) := h.trans (.of_below (below_alloc _ _))
theorem Only.drew {X : Nat -> Prop} {a b : World} (h : Only X a b) : Only X a b.drew := h.trans (.of_below (below_drew _ _))
theorem Only.then {X : Nat -> Prop} {a b c : World} (h : Only X a b) (k : Below b.heap.size b c) : Only X a c := h.trans (.of_below k)
theorem Only.cell {X : Nat -> Prop} {a b : World} (h : Only X a b) {p : Addr} {v : Value} (hc : a.cell? p = some v) (hp : ¬ X p.block) : b.cell? p = some v :=
  (World.cell?_of_block (h.block p.block (World.block_lt_of_cell? a _ hc) hp)).trans hc
theorem Only.step {X Y : Nat -> Prop} {a b c : World} (h : Only X a b) (k : Only Y b c) (hx : ∀ i, i < a.heap.size -> Y i -> X i) : Only X a c :=
  ⟨k.os.trans h.os, k.tape.trans h.tape, k.output.trans h.output, Nat.le_trans h.size k.size, fun i hi hn => (k.block i (Nat.lt_of_lt_of_le hi h.size) fun hy => hn (hx i hi hy)).trans (h.block i hi hn)⟩
theorem i64_or_nat (a b : Nat) (ha : a < 4611686018427387904) (hb : b < 4611686018427387904) : bits .or .i64 (a : Int) (b : Int) = ((a ||| b : Nat) : Int) := by
  have hx : a ||| b < 2 ^ 62 := Nat.or_lt_two_pow (by omega) (by omega)
  show IntKind.i64.wrap ((BitVec.ofInt 64 (a : Int) ||| BitVec.ofInt 64 (b : Int)).toNat : Int) = _
  rw [BitVec.toNat_or, ofInt_u64 a (by omega), ofInt_u64 b (by omega)]
  rw [IntKind.wrap_i64]
  omega
theorem or_mul (a b : Nat) (h : a < 256) : (b * 256) ||| a = b * 256 + a := by
  rw [show b * 256 = b <<< 8 from by rw [Nat.shiftLeft_eq], <- Nat.shiftLeft_add_eq_or_of_lt (i := 8) (by omega)]
set_option maxHeartbeats 2000000 in
set_option maxRecDepth 100000 in
theorem putTogether_any (w : World) (g o k cp : Nat) (F : Nat -> UInt8) (hr : ∀ j, j < k -> w.cell? ⟨g, o + j, none⟩ = some (.int .u8 (((F j).toNat : Nat) : Int))) (hk : k <= 4) :
    Calls Tryz.prog 94 #[.slice (some ⟨g, o, none⟩) k cp] w fun e w' => e = .returned (.int .i64 ((nm F 0 k : Nat) : Int)) /\ w' = w := by
  have HR : Hid (∀ j, j < k -> w.cell? ⟨g, o + j, none⟩ = some (.int .u8 (((F j).toNat : Nat) : Int))) := hr
  have HB : Hid (∀ j, j <= k -> nm F 0 j < 4294967296) := fun j hj => Nat.lt_of_lt_of_le (nm_lt F 0 j) (by
    rcases (show j = 0 \/ j = 1 \/ j = 2 \/ j = 3 \/ j = 4 by omega) with rfl | rfl | rfl | rfl | rfl <;> decide)
  have HS : Hid (∀ j, nm F 0 (j + 1) = nm F 0 j * 256 + (F j).toNat) := fun j => by show _ = _; rw [nm, Nat.zero_add]
  have HL : Hid (∀ j, (F j).toNat < 256) := fun j => (F j).toNat_lt
  clear hr
  go_enter Tryz.func94, Tryz.ntmps94
  go_wp2
  go_loop [3, 8] (fun y x => ∃ i : Nat, i <= k /\ x = .int .i64 (i : Int) /\ ∃ z : Nat, y = .int .i64 (z : Int) /\ Hid (z = nm F 0 i)) (fun _ x => k - (intOf x).toNat)
  case atStart => exact ⟨0, Nat.zero_le _, rfl, 0, rfl, rfl⟩
  case round =>
    obtain ⟨i, hi, rfl, z, rfl, hz⟩ := hrel
    by_cases hlt : i < k
    · have ck := HR.out i hlt
      have hb := HB.out i (by omega)
      have hs := HS.out i
      have hl := HL.out i
      rw [<- hz.out] at hb hs
      obtain ⟨u, hu⟩ : ∃ u : Nat, (F i).toNat = u := ⟨_, rfl⟩
      rw [hu] at ck hs hl
      have HN : Hid (nm F 0 (i + 1) = z * 256 + u) := hs
      have hor : bits .or .i64 ((z : Int) * 256) (u : Int) = ((z * 256 + u : Nat) : Int) := by
        rw [show (z : Int) * 256 = ((z * 256 : Nat) : Int) by omega, i64_or_nat _ _ (by omega) (by omega), or_mul _ _ hl]
      have i1 : (0 : Int) <= (i : Int) := by omega
      have i2 : (i : Int) < (k : Int) := by omega
      clear hs hu hz
      go_wp2
      go_round
      case rel => exact ⟨i + 1, by omega, by go_num, z * 256 + u, by go_num, HN.out.symm⟩
      case measure => simp [intOf]; omega
    · obtain rfl : i = k := by omega
      go_wp2
      go_ret
      exact ⟨ret_int (by rw [hz.out]), rfl⟩
def prt (g o v d : Nat) : Array Value := #[.slice (some ⟨g, o, none⟩) 2 2, .slice (some ⟨g, o + 2, none⟩) 1 1, .slice (some ⟨g, o + 3, none⟩) 1 1, .slice (some ⟨g, o + 4, none⟩) 4 4, .slice (some ⟨g, o + 8, none⟩) 4 4, .slice (some ⟨g, o + 12, none⟩) v v, .slice (some ⟨g, o + 12 + v, none⟩) d d]
set_option maxHeartbeats 2000000 in
set_option maxRecDepth 100000 in
theorem version_any (w : World) (g o N d i : Nat) (hi : i < N) (hN : N <= 16) :
    Calls Tryz.prog 95 #[.agg (prt g o (4 * N) d), .int .i64 (i : Int)] w fun e w' => e = .returned (.slice (some ⟨g, o + 12 + 4 * i, none⟩) 4 4) /\ Below w.heap.size w w' := by
  unfold prt
  have h1 : (4 * (i : Int)) < ((4 * N : Nat) : Int) := by omega
  have h2 : (i : Int) * 4 + 4 <= ((4 * N : Nat) : Int) := by omega
  go_enter Tryz.func95, Tryz.ntmps95
  go_wp2
  go_ret
  exact ⟨by rw [show (i + 1) * 4 - i * 4 = 4 by omega, show i * 4 = 4 * i by omega]; rfl, below_alloc _ _⟩
set_option maxHeartbeats 2000000 in
set_option maxRecDepth 100000 in
theorem cut_any (w : World) (k r c q : Int) (g o n cp N : Nat) (hn : n = 12 + 4 * N + c.toNat) (hcp : n <= cp) (hN : 1 <= N) (hN2 : N <= 16) (hc : 8 <= c) (hc2 : c <= 64) :
    Calls Tryz.prog 64 #[.agg #[.int .i64 k, .int .i64 r, .int .i64 c, .int .i64 q], .slice (some ⟨g, o, none⟩) n cp] w fun e w' => e = .returned (.agg (prt g o (4 * N) c.toNat)) /\ Below w.heap.size w w' := by
  obtain ⟨d, rfl⟩ : ∃ d : Nat, c = (d : Int) := ⟨c.toNat, by omega⟩
  rw [Int.toNat_natCast] at *
  unfold prt
  obtain ⟨m, hm⟩ : ∃ m, m = 12 + 4 * N := ⟨_, rfl⟩
  have hv : 4 * N = m - 12 := by omega
  have h1 : ((n : Int) - (d : Int)) = (m : Int) := by omega
  rw [hv]
  have m1 : 16 <= m := by omega
  have m2 : m <= 76 := by omega
  have m3 : n = m + d := by omega
  clear hm hv hn hN hN2
  subst m3
  obtain ⟨w0, hw0⟩ : ∃ w0, w0 = w.alloc (.cells #[.int .i64 k, .int .i64 r, .int .i64 (d : Int), .int .i64 q] 23) := ⟨_, rfl⟩
  obtain ⟨w1, hw1⟩ : ∃ w1, w1 = w0.alloc (.cells #[.slice none 0 0, .slice none 0 0, .slice none 0 0, .slice none 0 0, .slice none 0 0, .slice none 0 0, .slice none 0 0] 119) := ⟨_, rfl⟩
  have b0 : Below w.heap.size w w0 := by rw [hw0]; exact below_alloc _ _
  have b1 : Below w0.heap.size w0 w1 := by rw [hw1]; exact below_alloc _ _
  have z0 : w0.heap.size = w.heap.size + 1 := by rw [hw0]; simp
  have x0 := blk_held hw1 (Below.refl _ _) 0 rfl
  have x1 := blk_held hw1 (Below.refl _ _) 1 rfl
  have x2 := blk_held hw1 (Below.refl _ _) 2 rfl
  have x3 := blk_held hw1 (Below.refl _ _) 3 rfl
  have x4 := blk_held hw1 (Below.refl _ _) 4 rfl
  have x5 := blk_held hw1 (Below.refl _ _) 5 rfl
  have x6 := blk_held hw1 (Below.refl _ _) 6 rfl
  have xf := blk_free hw1 (Below.refl _ _)
  rw [z0] at x0 x1 x2 x3 x4 x5 x6 xf
  have HBB : Hid (Below w.heap.size w w1) := below_then b0 b1
  have n1 : ¬ m = 12 := by omega
  have n2 : ((m : Int) + (d : Int)).toNat = m + d := by omega
  have n3 : ¬ m + d = m := by omega
  have n4 : m + d - m = d := by omega
  go_enter Tryz.func64, Tryz.ntmps64
  go_wp2_with fail
  rw [<- hw0, <- hw1]
  clear hw0 hw1 z0 b0 b1
  have c2 : (2 : Int) <= (cp : Int) := by omega
  have c3 : (3 : Int) <= (cp : Int) := by omega
  have c4 : (4 : Int) <= (cp : Int) := by omega
  have c8 : (8 : Int) <= (cp : Int) := by omega
  have c12 : (12 : Int) <= (cp : Int) := by omega
  have cm : (m : Int) <= (cp : Int) := by omega
  have cd : (m : Int) + (d : Int) <= (cp : Int) := by omega
  have c5 : (12 : Int) <= (m : Int) := by omega
  have c6 : (0 : Int) <= (m : Int) := by omega
  have c7 : (0 : Int) <= (m : Int) + (d : Int) := by omega
  have c9 : (m : Int) <= (m : Int) + (d : Int) := by omega
  refine wp_region_still_tail 22 (by kernel_rfl) (by kernel_rfl) ?_
  simp only [List.take_succ_cons, List.take_zero, List.drop_succ_cons, List.drop_zero]
  repeat (refine wpStill_step (fun K hK => ?_); go_simp; (try simp only [c2, c3, c4, c8, c12, cm, cd, c5, c6, c7, c9, and_self, if_true]); refine hK _ ?_; clear hK K)
  refine wpStill_nil ?_
  go_wp2
  refine bodyPost_ret (v := .agg #[.slice (some ⟨g, o, none⟩) 2 2, .slice (some ⟨g, o + 2, none⟩) 1 1, .slice (some ⟨g, o + 3, none⟩) 1 1, .slice (some ⟨g, o + 4, none⟩) 4 4, .slice (some ⟨g, o + 8, none⟩) 4 4, .slice (some ⟨g, o + 12, none⟩) (m - 12) (m - 12), .slice (some ⟨g, o + m, none⟩) d d]) (by simp [results, Tryz.results64, go_sem, x0, x1, x2, x3, x4, x5, x6]) rfl ⟨?_, ?_⟩
  · rw [show o + 12 + (m - 12) = o + m by omega]
  · exact below_step (((((((HBB.out.setCell (Nat.le_succ _) _).setCell (Nat.le_succ _) _).setCell (Nat.le_succ _) _).setCell (Nat.le_succ _) _).setCell (Nat.le_succ _) _).setCell (Nat.le_succ _) _).setCell (Nat.le_succ _) _) (below_drew _ _) (by simp [World.setCell]; exact HBB.out.size)
end Go.Proofs.YtngcdlodcdgcaaaGreat
