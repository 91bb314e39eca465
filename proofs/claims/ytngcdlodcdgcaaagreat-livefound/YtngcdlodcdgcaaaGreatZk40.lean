import Derived.Test.YtngcdlodcdgcaaaGreatZk39
namespace Go.Proofs.YtngcdlodcdgcaaaGreat
open Go.RowKit
theorem Cls.rdc {B : Nat} {w : World} {ao : Option Addr} {n cap m : Nat} {T : Nat -> Option Addr} {U : Nat -> Nat} {H : Nat -> Nat -> UInt8} (h : Cls B w ao n cap m T U H) {j : Nat} (hj : j <= n) : RdC w ao j T (fun _ => m) U := fun hp => by
  rcases h.out.2 with ⟨_, h1⟩ | ⟨g, cap', cur, h1, _⟩
  · omega
  · cases h1
    refine ⟨g, 0, rfl, fun i hi => ?_⟩
    have := h.out.cells (g := g) rfl i _ (Cod.rowsOf_get n T (fun _ => m) U i (by omega))
    rwa [Addr.add_lit] at this
theorem Cls.room {B : Nat} {w : World} {ao : Option Addr} {n cap m : Nat} {T : Nat -> Option Addr} {U : Nat -> Nat} {H : Nat -> Nat -> UInt8} (h : Cls B w ao n cap m T U H) : n <= cap := by
  rcases h.out.2 with ⟨h0, h1⟩ | ⟨g, cap', cur, h1, _, _, h4, _⟩
  · omega
  · cases h1; exact h4
set_option maxHeartbeats 4000000 in
set_option maxRecDepth 100000 in
theorem Read_any {k r c q : Int} {N W : Nat} {x : Int} (h : Par k r c q N W x) (w : World) (ro : Option Addr) (rn rc : Nat) (A : Nat -> Option Addr) (L C : Nat -> Nat) (F : Nat -> Nat -> UInt8) (hr : Rw w ro rn A L C F) (kd : UInt8) (v : Int) (E : Int) (hE : erV2 (erK x N c rn L kd v) (erL k.toNat (zv N c L F kd v) N) = E) :
    Calls Tryz.prog 75 #[.agg #[.int .i64 k, .int .i64 r, .int .i64 c, .int .i64 q], .slice ro rn rc, .int .u8 ((kd.toNat : Nat) : Int), .int .i64 v] w (AnsB w E (k.toNat * c.toNat) (cat2 c.toNat (cH k.toNat (zv N c L F kd v) N))) := by
  have HC : Hid (∀ u, Below w.heap.size w u -> Calls Tryz.prog 101 #[.agg #[.int .i64 k, .int .i64 r, .int .i64 c, .int .i64 q], .slice ro rn rc, .int .u8 ((kd.toNat : Nat) : Int), .int .i64 v] u (AnsC u E N c.toNat (cH k.toNat (zv N c L F kd v) N))) := fun u hu => Cells_any h u ro rn rc A L C F (hr.below hu) kd v E hE
  have hx : E = 0 -> 1 <= k /\ k <= N /\ N <= 16 /\ 8 <= c /\ c <= 64 := fun e => by
    have h0 : erK x N c rn L kd v = 0 := by
      unfold erV2 at hE
      by_cases g : erK x N c rn L kd v = 0
      · exact g
      · rw [if_neg g] at hE; rw [hE]; exact e
    obtain ⟨rfl, _⟩ := erR_zero (erK_zero h0).1
    have hle := h.le
    obtain ⟨c1, c2⟩ := h.cell rfl
    rcases h with ⟨hm, _, hN, _⟩ | ⟨_, _, _, h0⟩
    · obtain ⟨h1, h2, h3, h4, h5, h6, h7, h8, h9⟩ := may_true hm
      omega
    · exact absurd h0 (by decide)
  obtain ⟨w0, hw0⟩ : ∃ w0, w0 = w.alloc (.cells #[.int .i64 k, .int .i64 r, .int .i64 c, .int .i64 q] 23) := ⟨_, rfl⟩
  have B0 : Hid (Below w.heap.size w w0) := by show Below _ _ _; rw [hw0]; exact below_alloc _ _
  have L0 : Hid (∀ v, Below w0.heap.size w0 v -> At w v w.heap.size #[.int .i64 k, .int .i64 r, .int .i64 c, .int .i64 q] 23) := fun v hv => (at_made (Below.refl _ _) hw0).below hv
  generalize cH k.toNat (zv N c L F kd v) N = H at *
  clear h hr hE
  unfold AnsC at HC
  unfold AnsB
  by_cases he : E = 0
  · subst he
    obtain ⟨k1, k2, k3, c1, c2⟩ := hx rfl
    obtain ⟨K, rfl⟩ := Int.eq_ofNat_of_zero_le (show 0 <= k by omega)
    rw [Int.toNat_natCast]
    obtain ⟨m, hm⟩ : ∃ m, m = c.toNat := ⟨_, rfl⟩
    rw [<- hm] at HC ⊢
    have m1 : 0 < m := by omega
    have m2 : m <= 64 := by omega
    have e0 : lenE 0 N = N := if_pos rfl
    rw [e0] at HC
    rw [show lenE 0 (K * m) = K * m from if_pos rfl]
    clear hm hx e0
    go_enter Tryz.func75, Tryz.ntmps75
    go_wp2_with fail
    rw [<- hw0]
    clear hw0
    refine (HC.out _ B0.out).mono ?_
    rintro e wa ⟨ao, cap, T, U, rfl, hc, ha⟩
    have p0 := (L0.out wa ha).cell (i := 0) rfl
    have hroom := hc.room
    have hX := concat_any wa ao K cap m T U H (by omega) m1 m2 (hc.rdc (by omega)) (fun i hi => (hc.row i (by omega)).bec)
    have i1 : (0 : Int) <= (K : Int) := by omega
    have i2 : (K : Int) <= (cap : Int) := by omega
    have HBA : Hid (Below w.heap.size w wa) := below_then B0.out ha
    clear hc ha
    go_wp2_with fail
    refine hX.mono ?_
    rintro e wb ⟨bo, cb, rfl, hown, hb⟩
    go_wp2_with fail
    go_ret2
    exact ⟨bo, cb, rfl, hown.mono HBA.out.size, below_then HBA.out hb⟩
  · have e1 : (E != 0) = true := by simp [he]
    rw [show lenE E (k.toNat * c.toNat) = 0 from if_neg he]
    rw [show lenE E N = 0 from if_neg he] at HC
    clear hx
    go_enter Tryz.func75, Tryz.ntmps75
    go_wp2_with fail
    rw [<- hw0]
    clear hw0
    refine (HC.out _ B0.out).mono ?_
    rintro e wa ⟨ao, cap, T, U, rfl, hc, ha⟩
    go_wp2_with fail
    go_ret2
    exact ⟨none, 0, rfl, owu_nil _ _ _, below_then B0.out ha⟩
end Go.Proofs.YtngcdlodcdgcaaaGreat
namespace Go.Proofs.YtngcdlodcdgcaaaGreat
open Go.RowKit
def gL (Q : Nat) (F : Nat -> List UInt8) (o j : Nat) : Nat := (Im.rowF Q o F j).length
def gF (Q : Nat) (F : Nat -> List UInt8) (o j t : Nat) : UInt8 := (Im.rowF Q o F j).getD t 0
theorem rw_of {B : Nat} {w : World} {lo : Option Addr} {n : Nat} {A : Nat -> Option Addr} {C : Nat -> Nat} {G : Nat -> List UInt8} (h : Im.Im B w lo (2 * n) A C G) : Rw w lo n A (fun j => (G j).length) C (fun j t => (G j).getD t 0) := by
  rcases h with ⟨h0, rfl⟩ | ⟨l, rfl, hr, ho⟩
  · exact ⟨fun hp => by omega, fun j hj => by omega⟩
  · refine ⟨fun _ => ⟨l, 0, rfl, fun i hi => ?_⟩, fun j hj => ?_⟩
    · have h0 := hr.cell (2 * i) (by omega)
      have h1 := hr.cell (2 * i + 1) (by omega)
      rw [Nat.zero_add, Nat.mul_comm i 2]
      exact ⟨h0, h1⟩
    · refine ⟨fun hn => ?_, fun e => ?_, ?_⟩
      · obtain ⟨b, off, e, hc⟩ := (ho j hj).rd (fun e => by rw [e] at hn; exact absurd hn (Nat.lt_irrefl 0))
        refine ⟨b, off, e, fun t ht => ?_⟩
        rw [hc t ht, List.getD_eq_getElem?_getD, List.getElem?_eq_getElem ht, Option.getD_some]
      · obtain ⟨h1, h2⟩ := (ho j hj).nil e
        rw [h1]; exact ⟨rfl, h2⟩
      · show (G j).length <= C j
        rcases ho j hj with ⟨_, h1, h2⟩ | ⟨g, _, _, h1, _⟩
        · rw [h1, h2]; exact Nat.le_refl _
        · omega
def dat (k c : Int) (N Q : Nat) (F : Nat -> List UInt8) (o v : Int) : Nat -> UInt8 := cat2 c.toNat (cH k.toNat (zv N c (gL Q F o.toNat) (gF Q F o.toNat) 1 v) N)
def erSt (k c : Int) (N Q : Nat) (F : Nat -> List UInt8) (o v : Int) : Int := erV2 (erK 0 N c N (gL Q F o.toNat) 1 v) (erL k.toNat (zv N c (gL Q F o.toNat) (gF Q F o.toNat) 1 v) N)
def erLf (k c q : Int) (N W Q : Nat) (F : Nat -> List UInt8) (o v : Int) (m : Nat) : Int :=
  if 0 <= o /\ o < (Q : Int) then erV2 (erSt k c N Q F o v) (De.erR 0 W q W (m : Int) (dat k c N Q F o v)) else 2
def erLs (e : Nat -> Int) : Nat -> Int
  | 0 => 0
  | i + 1 => if erLs e i = 0 then e i else erLs e i
def lfN (W s i : Nat) : Nat := min (lea W) (s - i * lea W)
def sgR (k c : Int) (N W Q : Nat) (F : Nat -> List UInt8) (R V : Nat -> Int) (j : Nat) : Int := De.rdR (dat k c N Q F (R (j / lea W)) (V (j / lea W))) 0 (j % lea W)
def sgV (k c : Int) (N W Q : Nat) (F : Nat -> List UInt8) (R V : Nat -> Int) (j : Nat) : Int := De.rdV (dat k c N Q F (R (j / lea W)) (V (j / lea W))) 0 (j % lea W)
end Go.Proofs.YtngcdlodcdgcaaaGreat
namespace Go.Proofs.YtngcdlodcdgcaaaGreat.Cn
def dl (p : Nat -> Bool) : Nat -> List Int
  | 0 => []
  | n + 1 => if p n = true then dl p n ++ [(n : Int)] else dl p n
theorem dl_congr {p q : Nat -> Bool} : ∀ {n : Nat}, (∀ i, i < n -> p i = q i) -> dl p n = dl q n
  | 0, _ => rfl
  | n + 1, h => by rw [dl, dl, dl_congr (n := n) (fun i hi => h i (by omega)), h n (by omega)]
theorem mem_dl {p : Nat -> Bool} {x : Int} : ∀ {n : Nat}, x ∈ dl p n ↔ ∃ i : Nat, i < n /\ p i = true /\ x = (i : Int)
  | 0 => ⟨fun h => absurd h (by simp [dl]), fun ⟨i, h, _⟩ => absurd h (by omega)⟩
  | n + 1 => by
    rw [dl]
    by_cases h : p n = true
    · rw [if_pos h, List.mem_append, mem_dl (n := n)]
      constructor
      · rintro (⟨i, h1, h2, h3⟩ | h1)
        · exact ⟨i, by omega, h2, h3⟩
        · exact ⟨n, by omega, h, by simpa using h1⟩
      · rintro ⟨i, h1, h2, h3⟩
        by_cases e : i = n
        · exact .inr (by rw [h3, e]; simp)
        · exact .inl ⟨i, by omega, h2, h3⟩
    · rw [if_neg h, mem_dl (n := n)]
      constructor
      · rintro ⟨i, h1, h2, h3⟩; exact ⟨i, by omega, h2, h3⟩
      · rintro ⟨i, h1, h2, h3⟩
        by_cases e : i = n
        · rw [e] at h2; exact absurd h2 h
        · exact ⟨i, by omega, h2, h3⟩
def hbv (P Q : Nat -> Int) (v : Int) (d : Nat) : Bool := decide (P d = v \/ Q d = v)
def dv (P Q : Nat -> Int) (n : Nat) (v : Int) : List Int := dl (hbv P Q v) n
def ct (P Q : Nat -> Int) (n : Nat) (v : Int) : Nat := (dv P Q n v).length
def insD (x : Int) : List Int -> List Int
  | [] => [x]
  | y :: l => if y < x then x :: y :: l else if x = y then y :: l else y :: insD x l
theorem mem_insD {x z : Int} : ∀ {l : List Int}, z ∈ insD x l ↔ z = x \/ z ∈ l
  | [] => by simp [insD]
  | y :: l => by
    rw [insD]
    by_cases h : y < x
    · rw [if_pos h]; simp
    · rw [if_neg h]
      by_cases e : x = y
      · rw [if_pos e]; simp [e]
      · rw [if_neg e, List.mem_cons, mem_insD (l := l), List.mem_cons]
        constructor
        · rintro (h1 | h1 | h1); exact .inr (.inl h1); exact .inl h1; exact .inr (.inr h1)
        · rintro (h1 | h1 | h1); exact .inr (.inl h1); exact .inl h1; exact .inr (.inr h1)
theorem fall_insD {x : Int} : ∀ {l : List Int}, l.Pairwise (fun a b => b < a) -> (insD x l).Pairwise (fun a b => b < a)
  | [], _ => List.pairwise_singleton _ _
  | y :: l, h => by
    rw [insD]
    obtain ⟨h1, h2⟩ := List.pairwise_cons.1 h
    by_cases g : y < x
    · rw [if_pos g]
      refine List.pairwise_cons.2 ⟨fun a ha => ?_, h⟩
      rcases List.mem_cons.1 ha with rfl | ha
      · exact g
      · have := h1 a ha; omega
    · rw [if_neg g]
      by_cases e : x = y
      · rw [if_pos e]; exact h
      · rw [if_neg e]
        refine List.pairwise_cons.2 ⟨fun a ha => ?_, fall_insD h2⟩
        rcases mem_insD.1 ha with rfl | ha
        · omega
        · exact h1 a ha
def tvL (P Q : Nat -> Int) : Nat -> List Int
  | 0 => []
  | n + 1 =>
    let l := if P n = 0 then tvL P Q n else insD (P n) (tvL P Q n)
    if Q n = 0 then l else insD (Q n) l
theorem tvL_fall (P Q : Nat -> Int) : ∀ n : Nat, (tvL P Q n).Pairwise (fun a b => b < a)
  | 0 => List.Pairwise.nil
  | n + 1 => by
    have ih := tvL_fall P Q n
    rw [tvL]
    split <;> split
    · exact ih
    · exact fall_insD ih
    · exact fall_insD ih
    · exact fall_insD (fall_insD ih)
theorem mem_tvL {P Q : Nat -> Int} {v : Int} : ∀ {n : Nat}, v ∈ tvL P Q n ↔ v ≠ 0 /\ ∃ d, d < n /\ (P d = v \/ Q d = v)
  | 0 => ⟨fun h => absurd h (by simp [tvL]), fun ⟨_, d, h, _⟩ => absurd h (by omega)⟩
  | n + 1 => by
    have ih := mem_tvL (P := P) (Q := Q) (v := v) (n := n)
    have key : v ∈ tvL P Q (n + 1) ↔ v ∈ tvL P Q n \/ (v ≠ 0 /\ (P n = v \/ Q n = v)) := by
      rw [tvL]
      by_cases a : P n = 0 <;> by_cases b : Q n = 0
      · rw [if_pos b, if_pos a]
        constructor
        · exact .inl
        · rintro (h | ⟨h, h2 | h2⟩)
          · exact h
          · omega
          · omega
      · rw [if_neg b, if_pos a, mem_insD]
        constructor
        · rintro (h | h); exact .inr ⟨by omega, .inr h.symm⟩; exact .inl h
        · rintro (h | ⟨h, h2 | h2⟩)
          · exact .inr h
          · omega
          · exact .inl h2.symm
      · rw [if_pos b, if_neg a, mem_insD]
        constructor
        · rintro (h | h); exact .inr ⟨by omega, .inl h.symm⟩; exact .inl h
        · rintro (h | ⟨h, h2 | h2⟩)
          · exact .inr h
          · exact .inl h2.symm
          · omega
      · rw [if_neg b, if_neg a, mem_insD, mem_insD]
        constructor
        · rintro (h | h | h); exact .inr ⟨by omega, .inr h.symm⟩; exact .inr ⟨by omega, .inl h.symm⟩; exact .inl h
        · rintro (h | ⟨h, h2 | h2⟩)
          · exact .inr (.inr h)
          · exact .inr (.inl h2.symm)
          · exact .inl h2.symm
    rw [key, ih]
    constructor
    · rintro (⟨h, d, h1, h2⟩ | ⟨h, h2⟩)
      · exact ⟨h, d, by omega, h2⟩
      · exact ⟨h, n, by omega, h2⟩
    · rintro ⟨h, d, h1, h2⟩
      by_cases e : d = n
      · exact .inr ⟨h, by rw [<- e]; exact h2⟩
      · exact .inl ⟨h, d, by omega, h2⟩
theorem mem_tv {P Q : Nat -> Int} {v : Int} {n : Nat} : v ∈ tvL P Q n ↔ v ≠ 0 /\ dv P Q n v ≠ [] := by
  rw [mem_tvL]
  refine and_congr_right fun _ => ?_
  constructor
  · rintro ⟨d, h1, h2⟩ e
    have hm : ((d : Nat) : Int) ∈ dv P Q n v := mem_dl.2 ⟨d, h1, decide_eq_true h2, rfl⟩
    rw [e] at hm; cases hm
  · intro e
    obtain ⟨x, hx⟩ := List.exists_mem_of_ne_nil _ e
    obtain ⟨d, h1, h2, _⟩ := mem_dl.1 hx
    exact ⟨d, h1, of_decide_eq_true h2⟩
theorem fall_eq : ∀ {l m : List Int}, l.Pairwise (fun a b => b < a) -> m.Pairwise (fun a b => b < a) -> (∀ v, v ∈ l ↔ v ∈ m) -> l = m
  | [], [], _, _, _ => rfl
  | [], b :: m, _, _, h => absurd ((h b).2 (by simp)) (by simp)
  | a :: l, [], _, _, h => absurd ((h a).1 (by simp)) (by simp)
  | a :: l, b :: m, h1, h2, h => by
    obtain ⟨p1, p2⟩ := List.pairwise_cons.1 h1
    obtain ⟨q1, q2⟩ := List.pairwise_cons.1 h2
    have e : a = b := by
      rcases List.mem_cons.1 ((h a).1 (by simp)) with e | e
      · exact e
      · rcases List.mem_cons.1 ((h b).2 (by simp)) with e2 | e2
        · exact e2.symm
        · have := q1 a e; have := p1 b e2; omega
    subst e
    rw [fall_eq p2 q2 (fun v => ?_)]
    constructor
    · intro hv
      rcases List.mem_cons.1 ((h v).1 (List.mem_cons_of_mem _ hv)) with e | e
      · have := p1 v hv; omega
      · exact e
    · intro hv
      rcases List.mem_cons.1 ((h v).2 (List.mem_cons_of_mem _ hv)) with e | e
      · have := q1 v hv; omega
      · exact e
theorem tvL_few (P Q : Nat -> Int) : ∀ n : Nat, (tvL P Q n).length <= 2 * n := by
  have hi : ∀ (x : Int) (l : List Int), (insD x l).length <= l.length + 1 := by
    intro x l
    induction l with
    | nil => simp [insD]
    | cons y l ih =>
      rw [insD]
      split
      · simp
      · split
        · simp
        · simp; omega
  intro n
  induction n with
  | zero => simp [tvL]
  | succ n ih =>
    rw [tvL]
    have h1 := hi (P n) (tvL P Q n)
    split <;> split
    · omega
    · omega
    · have h2 := hi (Q n) (tvL P Q n); omega
    · have h2 := hi (Q n) (insD (P n) (tvL P Q n)); omega
def enB (K : Int) (P Q : Nat -> Int) (n : Nat) (v : Int) : Bool := decide (K <= (ct P Q n v : Int))
def wins (K : Int) (P Q : Nat -> Int) (n : Nat) : List Int := (tvL P Q n).filter (enB K P Q n)
end Go.Proofs.YtngcdlodcdgcaaaGreat.Cn
