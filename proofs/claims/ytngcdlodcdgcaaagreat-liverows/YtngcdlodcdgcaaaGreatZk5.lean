import Derived.Test.YtngcdlodcdgcaaaGreatZk4
namespace Go.Proofs.YtngcdlodcdgcaaaGreat.Dr
open Go.RowKit Go.Sort
abbrev Li := Int × Nat × Int
def lvl (l : List Li) : List Value := l.flatMap fun x => [.int .i64 x.1, .int .u8 (x.2.1 : Int), .int .i64 x.2.2]
theorem lvl_length (l : List Li) : (lvl l).length = l.length * 3 := by
 induction l with
 | nil => rfl
 | cons x l ih => simp [lvl] at *; omega
theorem lvl_append (a b : List Li) : lvl (a ++ b) = lvl a ++ lvl b := by simp [lvl]
theorem lvl_one (l : List Li) : ∀ v ∈ lvl l, v.oneCell' = true := by
 intro v hv
 simp only [lvl, List.mem_flatMap] at hv
 obtain ⟨x, _, hx⟩ := hv
 simp at hx
 rcases hx with rfl | rfl | rfl <;> rfl
def gA (l : List Li) (i : Nat) : Int := (l.getD i (0, 0, 0)).1
def gK (l : List Li) (i : Nat) : Nat := (l.getD i (0, 0, 0)).2.1
def gV (l : List Li) (i : Nat) : Int := (l.getD i (0, 0, 0)).2.2
theorem lvl_get : ∀ (l : List Li) (i : Nat), i < l.length -> (lvl l)[i * 3]? = some (.int .i64 (gA l i)) /\ (lvl l)[i * 3 + 1]? = some (.int .u8 (gK l i : Int)) /\ (lvl l)[i * 3 + 2]? = some (.int .i64 (gV l i))
 | [], i, h => absurd h (Nat.not_lt_zero i)
 | x :: l, 0, _ => ⟨rfl, rfl, rfl⟩
 | x :: l, i + 1, h => by
  have ih := lvl_get l i (by simpa using h)
  have e : lvl (x :: l) = [.int .i64 x.1, .int .u8 (x.2.1 : Int), .int .i64 x.2.2] ++ lvl l := rfl
  rw [e, show (i + 1) * 3 = 3 + i * 3 by omega]
  refine ⟨?_, ?_, ?_⟩
  ·rw [List.getElem?_append_right (by simp)]; simpa [gA] using ih.1
  ·rw [List.getElem?_append_right (by simp; omega)]; simp only [List.length_cons, List.length_nil]; rw [show 3 + i * 3 + 1 - (0 + 1 + 1 + 1) = i * 3 + 1 by omega]; simpa [gK] using ih.2.1
  ·rw [List.getElem?_append_right (by simp; omega)]; simp only [List.length_cons, List.length_nil]; rw [show 3 + i * 3 + 2 - (0 + 1 + 1 + 1) = i * 3 + 2 by omega]; simpa [gV] using ih.2.2
theorem info45 : (Tryz.prog.info? 45).map (fun i => (i.zero, i.size, i.bytes)) = some (some (.agg #[.int .i64 0, .int .u8 0, .int .i64 0]), 3, 24) := by kernel_rfl
def Rel (w : World) (ao : Option Addr) (l : List Li) (cap : Nat) : Prop := Rev w ao l.length cap (lvl l)
def OwL (B : Nat) (w : World) (ao : Option Addr) (l : List Li) (cap : Nat) : Prop := Ow B w 45 3 ao l.length cap (lvl l)
theorem Rel.below {w w' : World} {ao : Option Addr} {l : List Li} {cap : Nat} (h : Rel w ao l cap) (ho : Below w.heap.size w w') : Rel w' ao l cap := Rev.below h ho
theorem Rel.at_ {w : World} {ao : Option Addr} {l : List Li} {cap : Nat} (h : Rel w ao l cap) (hn : 0 < l.length) : ∃ b off, ao = some ⟨b, off, none⟩ /\ ∀ i, i < l.length -> w.cell? ⟨b, off + i * 3, none⟩ = some (.int .i64 (gA l i)) /\ w.cell? ⟨b, off + i * 3 + 1, none⟩ = some (.int .u8 (gK l i : Int)) /\ w.cell? ⟨b, off + i * 3 + 2, none⟩ = some (.int .i64 (gV l i)) := by
 obtain ⟨b, off, e, hc⟩ := Rev.rd h hn
 refine ⟨b, off, e, fun i hi => ?_⟩
 obtain ⟨g0, g1, g2⟩ := lvl_get l i hi
 exact ⟨hc _ _ g0, hc _ _ g1, hc _ _ g2⟩
theorem OwL.rel {B : Nat} {w : World} {ao : Option Addr} {l : List Li} {cap : Nat} (h : OwL B w ao l cap) : Rel w ao l cap := ow_rev h
theorem OwL.below {B : Nat} {w w' : World} {ao : Option Addr} {l : List Li} {cap : Nat} (h : OwL B w ao l cap) (hb : Below w.heap.size w w') : OwL B w' ao l cap := ow_below h hb
theorem OwL.mono {B B' : Nat} {w : World} {ao : Option Addr} {l : List Li} {cap : Nat} (h : OwL B w ao l cap) (hb : B' <= B) : OwL B' w ao l cap := ow_mono h hb
theorem OwL.ge {B : Nat} {w : World} {ao : Option Addr} {l : List Li} {cap : Nat} (h : OwL B w ao l cap) : ∀ g, (Value.slice ao l.length cap).ownBlock = some g -> B <= g := ow_ge h
theorem owl_nil (B : Nat) (w : World) : OwL B w none [] 0 := ow_nil _ _ _ _
theorem append_lives {w : World} {ops : Array Oper} {rest : List Oper} {o : Oper} {a : Act} {Q : Exit -> Act -> World -> Prop} (hgd : o.guard = none) (s x : Operand)
  (ho : o.op = .call { callee := .builtin .append, args := #[s, x], argTypes := #[29, 29] }) (B ca cb : Nat) (ao bo : Option Addr) (l m : List Li)
  (hs : a.eval s = .slice ao l.length ca) (hx : a.eval x = .slice bo m.length cb) (h : OwL B w ao l ca) (hv : Rel w bo m cb) (hk : l.length + m.length <= 1000000000000) (hB : B <= w.heap.size)
  (cont : ∀ ao' c' w' L, L = l ++ m -> OwL B w' ao' L c' -> w.grownBy w' (Value.slice ao l.length ca).ownBlock -> wpList Tryz.prog ops Q rest (a.put o.dst (.slice ao' L.length c')) w') : wpList Tryz.prog ops Q (o :: rest) a w :=
 append_v hgd 29 45 3 24 (.agg #[.int .i64 0, .int .u8 0, .int .i64 0]) s x ho Tryz.underlying29 info45 rfl (by decide) (by decide) B l.length m.length ca cb ao bo (lvl l) (lvl m) hs hx h hv (lvl_length m) (lvl_one m) hk hB fun ao' c' w' h1 h2 => by
  have := cont ao' c' w' (l ++ m) rfl (by unfold OwL; rw [List.length_append, lvl_append]; exact h1) h2
  rw [List.length_append] at this
  exact this
def AnsY (w : World) (E : Int) (L : List UInt8) (e : Ending) (w' : World) : Prop := ∃ ao ca, e = .returned (.tuple #[.slice ao L.length ca, .int .i64 E]) /\ OwB w.heap.size w' ao L ca /\ RowKit.Below w.heap.size w w'
def AnsI (w : World) (E : Int) (L : List Int) (e : Ending) (w' : World) : Prop := ∃ ao ca, e = .returned (.tuple #[.slice ao L.length ca, .int .i64 E]) /\ OwI w.heap.size w' ao L ca /\ RowKit.Below w.heap.size w w'
def AnsE (w : World) (E : Int) (L : List En) (e : Ending) (w' : World) : Prop := ∃ ao ca, e = .returned (.tuple #[.slice ao L.length ca, .int .i64 E]) /\ OwE w.heap.size w' ao L ca /\ RowKit.Below w.heap.size w w'
def AnsL (w : World) (E : Int) (L : List Li) (e : Ending) (w' : World) : Prop := ∃ ao ca, e = .returned (.tuple #[.slice ao L.length ca, .int .i64 E]) /\ OwL w.heap.size w' ao L ca /\ RowKit.Below w.heap.size w w'
def uE (q BE : Int) (b : List UInt8) : Int := if BE = 0 then erU 0 q b else BE
def uL (q BE : Int) (b : List UInt8) : List Int := if uE q BE b = 0 then rws b else []
set_option maxHeartbeats 1000000 in
set_option maxRecDepth 100000 in
theorem bucketsIn_any {k r c q : Int} {M : Nat} {BE : Int} (hp : BE = 0 -> PP k r c q M 0) (w : World) (lo : Option Addr) (n cl : Nat) (o : Int) (b : List UInt8) (hb : BE ≠ 0 -> b = [])
  (HA : Hid (∀ u, RowKit.Below w.heap.size w u -> Calls Tryz.prog 33 #[.agg #[.int .i64 k, .int .i64 r, .int .i64 c, .int .i64 q, .slice lo n cl], .int .i64 o] u (AnsY u BE b))) :
  Calls Tryz.prog 21 #[.agg #[.int .i64 k, .int .i64 r, .int .i64 c, .int .i64 q, .slice lo n cl], .int .i64 o] w (AnsI w (uE q BE b) (uL q BE b)) := by
 obtain ⟨w0, hw0⟩ : ∃ w0, w0 = w.alloc (.cells #[.int .i64 k, .int .i64 r, .int .i64 c, .int .i64 q, .slice lo n cl] 26) := ⟨_, rfl⟩
 have b0 : RowKit.Below w.heap.size w w0 := by rw [hw0]; exact below_alloc _ _
 have HPAR : Hid (∀ v, RowKit.Below w0.heap.size w0 v -> v.cell? ⟨w.heap.size, 0, none⟩ = some (.int .i64 k) /\ v.cell? ⟨w.heap.size, 1, none⟩ = some (.int .i64 r) /\ v.cell? ⟨w.heap.size, 2, none⟩ = some (.int .i64 c) /\ v.cell? ⟨w.heap.size, 3, none⟩ = some (.int .i64 q)) := fun v hv => ⟨blk_held hw0 hv 0 rfl, blk_held hw0 hv 1 rfl, blk_held hw0 hv 2 rfl, blk_held hw0 hv 3 rfl⟩
 have HB0 : Hid (RowKit.Below w.heap.size w w0) := b0
 unfold AnsY at HA
 unfold AnsI
 by_cases hBE : BE = 0
 ·subst hBE
  have hp := hp rfl
  have HU := fun u uo uc hu => Buckets_any hp u uo b uc hu
  obtain ⟨E, hE⟩ : ∃ E, E = uE q 0 b := ⟨_, rfl⟩
  obtain ⟨L, hL⟩ : ∃ L, L = uL q 0 b := ⟨_, rfl⟩
  have HE : Hid (E = uE q 0 b /\ L = uL q 0 b) := ⟨hE, hL⟩
  rw [<- hE, <- hL]
  clear hE hL hp
  go_enter Tryz.func21, Tryz.ntmps21
  go_wp2_with fail
  rw [<- hw0]
  clear hw0
  refine (HA.out _ b0).mono ?_
  rintro e wa ⟨bo, bc, rfl, hob, ha⟩
  have HAB : Hid (RowKit.Below w0.heap.size w0 wa) := ha
  obtain ⟨x0, x1, x2, x3⟩ := HPAR.out wa ha
  have hub := HU wa bo bc hob.reb
  clear HA HU hob ha b0
  go_wp2_with fail
  refine hub.mono ?_
  rintro e w2 ⟨E', uo, uc, L', hE', hL', rfl, hou, h2⟩
  have e1 : E' = E := by rw [hE', HE.out.1]; unfold uE; rw [if_pos rfl]
  have e2 : L' = L := by rw [hL', HE.out.2, e1, HE.out.1]; unfold uL; rfl
  subst e1 e2
  have HO : Hid (OwI w.heap.size w2 uo L' uc) := hou.mono (Nat.le_trans HB0.out.size HAB.out.size)
  have HB2 : Hid (RowKit.Below w.heap.size w w2) := below_then (below_then HB0.out HAB.out) h2
  clear hub x0 x1 x2 x3 hou h2 hE' hL'
  go_wp2_with fail
  go_ret2
  exact ⟨uo, uc, rfl, HO.out, HB2.out⟩
 ·have e1 : uE q BE b = BE := if_neg hBE
  have e2 : uL q BE b = [] := by unfold uL; rw [e1, if_neg hBE]
  rw [e1, e2]
  obtain rfl := hb hBE
  have hz : (BE != 0) = true := by simpa using hBE
  clear hBE e1 e2 hb hp
  go_enter Tryz.func21, Tryz.ntmps21
  go_wp2_with fail
  rw [<- hw0]
  clear hw0
  refine (HA.out _ b0).mono ?_
  rintro e wa ⟨bo, bc, rfl, hob, ha⟩
  have HAB : Hid (RowKit.Below w.heap.size w wa) := below_then b0 ha
  clear HA hob ha b0
  go_wp2_with fail
  go_ret2
  exact ⟨none, 0, rfl, owi_nil _ _, HAB.out⟩
def eE (q : Int) (M : Nat) (BE : Int) (b : List UInt8) (l : List En) (rest : List UInt8) : Int := if BE = 0 then erB 0 M q b.length l rest else BE
def eL (q : Int) (M : Nat) (BE : Int) (b : List UInt8) (l : List En) (rest : List UInt8) : List En := if eE q M BE b l rest = 0 then l else []
set_option maxHeartbeats 1000000 in
set_option maxRecDepth 100000 in
theorem entriesIn_any {k r c q : Int} {M : Nat} {BE : Int} (hp : BE = 0 -> PP k r c q M 0) (w : World) (lo : Option Addr) (n cl : Nat) (o : Int) (b : List UInt8) (hb : BE ≠ 0 -> b = []) (hbn : b.length <= 100000) (l : List En) (rest : List UInt8) (hpr : Prs b l rest)
  (HA : Hid (∀ u, RowKit.Below w.heap.size w u -> Calls Tryz.prog 33 #[.agg #[.int .i64 k, .int .i64 r, .int .i64 c, .int .i64 q, .slice lo n cl], .int .i64 o] u (AnsY u BE b))) :
  Calls Tryz.prog 26 #[.agg #[.int .i64 k, .int .i64 r, .int .i64 c, .int .i64 q, .slice lo n cl], .int .i64 o] w (AnsE w (eE q M BE b l rest) (eL q M BE b l rest)) := by
 obtain ⟨w0, hw0⟩ : ∃ w0, w0 = w.alloc (.cells #[.int .i64 k, .int .i64 r, .int .i64 c, .int .i64 q, .slice lo n cl] 26) := ⟨_, rfl⟩
 have b0 : RowKit.Below w.heap.size w w0 := by rw [hw0]; exact below_alloc _ _
 have HPAR : Hid (∀ v, RowKit.Below w0.heap.size w0 v -> v.cell? ⟨w.heap.size, 0, none⟩ = some (.int .i64 k) /\ v.cell? ⟨w.heap.size, 1, none⟩ = some (.int .i64 r) /\ v.cell? ⟨w.heap.size, 2, none⟩ = some (.int .i64 c) /\ v.cell? ⟨w.heap.size, 3, none⟩ = some (.int .i64 q)) := fun v hv => ⟨blk_held hw0 hv 0 rfl, blk_held hw0 hv 1 rfl, blk_held hw0 hv 2 rfl, blk_held hw0 hv 3 rfl⟩
 have HB0 : Hid (RowKit.Below w.heap.size w w0) := b0
 unfold AnsY at HA
 unfold AnsE
 by_cases hBE : BE = 0
 ·subst hBE
  have hp := hp rfl
  have HU := fun u uo uc hu => Parse_any hp u uo b uc hu hbn l rest hpr
  obtain ⟨E, hE⟩ : ∃ E, E = eE q M 0 b l rest := ⟨_, rfl⟩
  obtain ⟨L, hL⟩ : ∃ L, L = eL q M 0 b l rest := ⟨_, rfl⟩
  have HE : Hid (E = eE q M 0 b l rest /\ L = eL q M 0 b l rest) := ⟨hE, hL⟩
  rw [<- hE, <- hL]
  clear hE hL hp hpr hbn
  go_enter Tryz.func26, Tryz.ntmps26
  go_wp2_with fail
  rw [<- hw0]
  clear hw0
  refine (HA.out _ b0).mono ?_
  rintro e wa ⟨bo, bc, rfl, hob, ha⟩
  have HAB : Hid (RowKit.Below w0.heap.size w0 wa) := ha
  obtain ⟨x0, x1, x2, x3⟩ := HPAR.out wa ha
  have hub := HU wa bo bc hob.reb
  clear HA HU hob ha b0
  go_wp2_with fail
  refine hub.mono ?_
  rintro e w2 ⟨E', uo, uc, L', hE', hL', rfl, hou, h2⟩
  have e1 : E' = E := by rw [hE', HE.out.1]; unfold eE; rw [if_pos rfl]
  have e2 : L' = L := by rw [hL', HE.out.2, e1, HE.out.1]; unfold eL; rfl
  subst e1 e2
  have HO : Hid (OwE w.heap.size w2 uo L' uc) := hou.mono (Nat.le_trans HB0.out.size HAB.out.size)
  have HB2 : Hid (RowKit.Below w.heap.size w w2) := below_then (below_then HB0.out HAB.out) h2
  clear hub x0 x1 x2 x3 hou h2 hE' hL'
  go_wp2_with fail
  go_ret2
  exact ⟨uo, uc, rfl, HO.out, HB2.out⟩
 ·have e1 : eE q M BE b l rest = BE := if_neg hBE
  have e2 : eL q M BE b l rest = [] := by unfold eL; rw [e1, if_neg hBE]
  rw [e1, e2]
  obtain rfl := hb hBE
  have hz : (BE != 0) = true := by simpa using hBE
  clear hBE e1 e2 hb hp hpr
  go_enter Tryz.func26, Tryz.ntmps26
  go_wp2_with fail
  rw [<- hw0]
  clear hw0
  refine (HA.out _ b0).mono ?_
  rintro e wa ⟨bo, bc, rfl, hob, ha⟩
  have HAB : Hid (RowKit.Below w.heap.size w wa) := below_then b0 ha
  clear HA hob ha b0
  go_wp2_with fail
  go_ret2
  exact ⟨none, 0, rfl, owe_nil _ _, HAB.out⟩
end Go.Proofs.YtngcdlodcdgcaaaGreat.Dr
namespace Go.Proofs.YtngcdlodcdgcaaaGreat.Dr
open Go.RowKit Go.Sort
def snds (l : List En) : List Int := l.map (·.2)
theorem snds_take {l : List En} {i : Nat} (h : i < l.length) : snds (l.take (i + 1)) = snds (l.take i) ++ [gR l i] := by
 unfold snds; rw [take_ent h, List.map_append]; rfl
set_option maxHeartbeats 1000000 in
set_option maxRecDepth 100000 in
theorem objectsIn_any {k r c q : Int} (w : World) (lo : Option Addr) (n cl : Nat) (o E : Int) (l : List En) (hl : l.length <= 1000000) (hE : E ≠ 0 -> l = [])
  (HA : Hid (∀ u, RowKit.Below w.heap.size w u -> Calls Tryz.prog 26 #[.agg #[.int .i64 k, .int .i64 r, .int .i64 c, .int .i64 q, .slice lo n cl], .int .i64 o] u (AnsE u E l))) :
  Calls Tryz.prog 22 #[.agg #[.int .i64 k, .int .i64 r, .int .i64 c, .int .i64 q, .slice lo n cl], .int .i64 o] w (AnsI w E (snds l)) := by
 obtain ⟨w0, hw0⟩ : ∃ w0, w0 = w.alloc (.cells #[.int .i64 k, .int .i64 r, .int .i64 c, .int .i64 q, .slice lo n cl] 26) := ⟨_, rfl⟩
 have b0 : RowKit.Below w.heap.size w w0 := by rw [hw0]; exact below_alloc _ _
 have HB0 : Hid (RowKit.Below w.heap.size w w0) := b0
 unfold AnsE at HA
 unfold AnsI
 by_cases hz : E = 0
 ·subst hz
  go_enter Tryz.func22, Tryz.ntmps22
  go_wp2_with fail
  rw [<- hw0]
  clear hw0
  refine (HA.out _ b0).mono ?_
  rintro e wa ⟨bo, bc, rfl, hob, ha⟩
  have HAB : Hid (RowKit.Below w.heap.size w wa) := below_then HB0.out ha
  have HV : Hid (Ren wa bo l bc) := hob.ren
  have HZ : Hid (w.heap.size <= wa.heap.size) := HAB.out.size
  clear HA hob ha b0
  go_wp2_with fail
  go_loopw [8, 22] (fun v x wr => ∃ (i : Nat) (ao : Option Addr) (ca : Nat) (L : List Int), i <= l.length /\ x = .int .i64 (i : Int) /\ v = .slice ao L.length ca /\ Hid (L = snds (l.take i)) /\ Hid (OwI wa.heap.size wr ao L ca) /\ Hid (RowKit.Below wa.heap.size wa wr)) (fun _ x _ => l.length - (intOf x).toNat)
  case atStart => exact ⟨0, none, 0, [], Nat.zero_le _, rfl, rfl, rfl, owi_nil _ _, Below.refl _ _⟩
  case round =>
   obtain ⟨i, ao, ca, L, hi, rfl, rfl, hL, hown, hbel⟩ := hrel
   by_cases hlt : i < l.length
   ·obtain ⟨b, off, rfl, hc⟩ := (HV.out.below hbel.out).at_ (by omega)
    obtain ⟨c0, c1⟩ := hc i hlt
    have HLL : Hid (L ++ [gR l i] = snds (l.take (i + 1))) := by show _ = _; rw [snds_take hlt, hL.out]
    have hLn : L.length <= l.length := by rw [hL.out]; simp [snds]; omega
    obtain ⟨R, hR⟩ : ∃ R, R = gR l i := ⟨_, rfl⟩
    rw [<- hR] at c1 HLL
    obtain ⟨S, hS⟩ : ∃ S, S = gN l i := ⟨_, rfl⟩
    rw [<- hS] at c0
    have i1 : (0 : Int) <= (i : Int) := by omega
    have i2 : (i : Int) < (l.length : Int) := by omega
    obtain ⟨w1, hw1⟩ : ∃ w1, w1 = wr.alloc (.cells #[.string ⟨S.toArray⟩, .int .i64 R] 42) := ⟨_, rfl⟩
    have hb1 : RowKit.Below wr.heap.size wr w1 := by rw [hw1]; exact below_alloc _ _
    have hz1 : w1.heap.size = wr.heap.size + 1 := by rw [hw1]; simp
    obtain ⟨y0, y1⟩ := ent_held hw1 (Below.refl _ w1)
    obtain ⟨w3, hw3⟩ : ∃ w3, w3 = w1.alloc (.cells #[.int .i64 R] 3) := ⟨_, rfl⟩
    have hb3 : RowKit.Below wr.heap.size wr w3 := below_then hb1 (by rw [hw3]; exact below_alloc _ _)
    have hlit : Rei w3 (some ⟨wr.heap.size + 1, 0, none⟩) [R] 1 := by rw [<- hz1]; exact rei_lit R hw3
    have HB3 : Hid (RowKit.Below wa.heap.size wa w3) := below_then hbel.out hb3
    have hown3 := hown.out.below hb3
    have hsz3 := HB3.out.size
    clear hc hR hS hb1 hb3
    go_wp2_with (rw [<- hw1]; rw [<- hw3]; at_builtin; refine append_ints (by rfl) (.tmp 26) (.tmp 29) (by rfl) wa.heap.size ca 1 ao (some ⟨wr.heap.size + 1, 0, none⟩) L [R] (by rfl) (by first | rfl | (show _ = _; rw [<- hz1]; rfl)) hown3 hlit (by simp; omega) hsz3 ?_; intro bo4 cb4 w4 L4 hL4 hown4 hg4; have HL4 : Hid (L4 = L ++ [R]) := hL4; clear hL4)
    go_roundw
    case rel => exact ⟨i + 1, bo4, cb4, L4, by omega, by go_num, rfl, by show _ = _; rw [<- HLL.out, HL4.out], hown4, HB3.out.grown hg4 hsz3 hown3.ge⟩
    case measure => simp [intOf]; omega
   ·obtain rfl : i = l.length := by omega
    have HLE : Hid (L = snds l) := by show _ = _; rw [hL.out, List.take_length]
    have HO : Hid (OwI w.heap.size wr ao L ca) := hown.out.mono HZ.out
    have HB : Hid (RowKit.Below w.heap.size w wr) := below_then HAB.out hbel.out
    clear hown hL
    go_wp2_with fail
    go_ret2
    rw [<- HLE.out]
    exact ⟨ao, ca, rfl, HO.out, HB.out⟩
 ·obtain rfl := hE hz
  have hz' : (E != 0) = true := by simpa using hz
  clear hz hE
  go_enter Tryz.func22, Tryz.ntmps22
  go_wp2_with fail
  rw [<- hw0]
  clear hw0
  refine (HA.out _ b0).mono ?_
  rintro e wa ⟨bo, bc, rfl, hob, ha⟩
  have HAB : Hid (RowKit.Below w.heap.size w wa) := below_then b0 ha
  clear HA hob ha b0
  go_wp2_with fail
  go_ret2
  exact ⟨none, 0, rfl, owi_nil _ _, HAB.out⟩
set_option maxHeartbeats 1000000 in
set_option maxRecDepth 100000 in
theorem LBuckets_any {k r c q : Int} (w : World) (lo : Option Addr) (n cl : Nat) (E : Int) (L : List Int)
  (HA : Hid (∀ u, RowKit.Below w.heap.size w u -> Calls Tryz.prog 21 #[.agg #[.int .i64 k, .int .i64 r, .int .i64 c, .int .i64 q, .slice lo n cl], .int .i64 0] u (AnsI u E L))) :
  Calls Tryz.prog 11 #[.agg #[.int .i64 k, .int .i64 r, .int .i64 c, .int .i64 q, .slice lo n cl]] w (AnsI w E L) := by
 obtain ⟨w0, hw0⟩ : ∃ w0, w0 = w.alloc (.cells #[.int .i64 k, .int .i64 r, .int .i64 c, .int .i64 q, .slice lo n cl] 26) := ⟨_, rfl⟩
 have b0 : RowKit.Below w.heap.size w w0 := by rw [hw0]; exact below_alloc _ _
 have HB0 : Hid (RowKit.Below w.heap.size w w0) := b0
 unfold AnsI at HA
 unfold AnsI
 go_enter Tryz.func11, Tryz.ntmps11
 go_wp2_with fail
 rw [<- hw0]
 clear hw0
 refine (HA.out _ b0).mono ?_
 rintro e wa ⟨bo, bc, rfl, hob, ha⟩
 have HAB : Hid (RowKit.Below w.heap.size w wa) := below_then b0 ha
 have HO : Hid (OwI w.heap.size wa bo L bc) := hob.mono HB0.out.size
 clear HA hob ha b0
 go_wp2_with fail
 go_ret2
 exact ⟨bo, bc, rfl, HO.out, HAB.out⟩
end Go.Proofs.YtngcdlodcdgcaaaGreat.Dr
namespace Go.Proofs.YtngcdlodcdgcaaaGreat.Dr
open Go.RowKit
def sumB (l : List UInt8) : Nat := (l.map UInt8.toNat).foldl (· + ·) 0
theorem sumB_snoc (l : List UInt8) (c : UInt8) : sumB (l ++ [c]) = sumB l + c.toNat := by simp [sumB, List.foldl_append]
theorem sumB_le : ∀ l : List UInt8, sumB l <= 255 * l.length := fun l => by
 have : ∀ (l : List UInt8) (a : Nat), (l.map UInt8.toNat).foldl (· + ·) a <= a + 255 * l.length := fun l => by
  induction l with
  | nil => intro a; simp
  | cons c l ih => intro a; have h1 := ih (a + c.toNat); have h2 := c.toNat_lt; simp only [List.map_cons, List.foldl_cons, List.length_cons]; omega
 simpa [sumB] using this l 0
theorem ret_str {a b : Int} (h : a = b) : Value.int .i64 a = .int .i64 b := by rw [h]
theorem sum_take (l : Nm) (i : Nat) (h : i < l.length) : sumB (l.take (i + 1)) = sumB (l.take i) + (l[i]'h).toNat := by
 rw [List.take_succ_eq_append_getElem h, sumB_snoc]
def bkt (l : Nm) : Int := if mayN l = true then (sumB l : Int) % 4 else 0
theorem bkt_at (l : Nm) : 0 <= bkt l /\ bkt l < 4 := by
 unfold bkt; split <;> omega
set_option maxHeartbeats 1000000 in
set_option maxRecDepth 100000 in
theorem Bucket_any (l : Nm) (w : World) : Calls Tryz.prog 16 #[.string ⟨l.toArray⟩] w fun e w' => e = .returned (.tuple #[.int .i64 (bkt l), .int .i64 (erM l)]) /\ w' = w := by
 have hs := str_size l
 cases hm : mayN l
 ·have HC := NCheck_any l w
  rw [erM_bad hm] at HC ⊢
  rw [show bkt l = 0 from if_neg (by rw [hm]; decide)]
  go_enter Tryz.func16, Tryz.ntmps16
  go_wp2_with (go_at_call 30; refine HC.mono ?_)
  rintro e w1 ⟨rfl, rfl⟩
  go_wp2
  go_ret2
  exact ⟨rfl, rfl⟩
 ·have HC := NCheck_any l w
  obtain ⟨h1, h2⟩ := (mayN_iff l).1 hm
  rw [erM_good hm] at HC ⊢
  rw [show bkt l = (sumB l : Int) % 4 from if_pos hm]
  go_enter Tryz.func16, Tryz.ntmps16
  go_wp2_with (go_at_call 30; refine HC.mono ?_)
  rintro e w1 ⟨rfl, rfl⟩
  go_wp2
  go_loopw [5, 6, 14] (fun s _ c wr => ∃ i : Nat, i <= l.length /\ c = .int .i64 (i : Int) /\ s = .int .i64 ((sumB (l.take i) : Nat) : Int) /\ wr = w1) (fun _ _ c _ => l.length - (intOf c).toNat)
  case atStart => exact ⟨0, Nat.zero_le _, rfl, rfl, rfl⟩
  case round =>
   obtain ⟨i, hi, rfl, rfl, rfl⟩ := hrel
   by_cases hlt : i < l.length
   ·have i1 : (0 : Int) <= (i : Int) := by omega
    have i2 : (i : Int) < ((ByteArray.mk l.toArray).size : Int) := by omega
    have hb := sumB_le (l.take i)
    have hc := (l[i]'hlt).toNat_lt
    have hl : (l.take i).length <= 24 := by simp; omega
    go_wp2
    go_roundw
    case rel =>
     refine ⟨i + 1, by omega, by go_num, ret_str ?_, trivial⟩
     rw [sum_take l i hlt]
     show wrap64 ((sumB (l.take i) : Int) + wrap64 ((l[i]'hlt).toNat : Int)) = _
     unfold wrap64; omega
    case measure => simp [intOf]; omega
   ·obtain rfl : i = l.length := by omega
    go_wp2
    go_ret2
    rw [List.take_length]
    exact ⟨rfl, rfl⟩
end Go.Proofs.YtngcdlodcdgcaaaGreat.Dr
namespace Go.Proofs.YtngcdlodcdgcaaaGreat.Dr
open Go.RowKit Go.Sort
set_option maxHeartbeats 1000000 in
set_option maxRecDepth 100000 in
theorem Entries_good {k r c q : Int} (w : World) (lo : Option Addr) (n cl : Nat) (L : List Int) (hL : L.length = 4) (i : Nat) (hi : i < 4) (E : Int) (l : List En)
  (HC : Hid (∀ u, RowKit.Below w.heap.size w u -> Calls Tryz.prog 24 #[.agg #[.int .i64 k, .int .i64 r, .int .i64 c, .int .i64 q, .slice lo n cl]] u fun e w' => e = .returned (.int .i64 0) /\ RowKit.Below u.heap.size u w'))
  (HB : Hid (∀ u, RowKit.Below w.heap.size w u -> Calls Tryz.prog 11 #[.agg #[.int .i64 k, .int .i64 r, .int .i64 c, .int .i64 q, .slice lo n cl]] u (AnsI u 0 L)))
  (HE : Hid (∀ u, RowKit.Below w.heap.size w u -> Calls Tryz.prog 26 #[.agg #[.int .i64 k, .int .i64 r, .int .i64 c, .int .i64 q, .slice lo n cl], .int .i64 (L.getD i 0)] u (AnsE u E l))) :
  Calls Tryz.prog 12 #[.agg #[.int .i64 k, .int .i64 r, .int .i64 c, .int .i64 q, .slice lo n cl], .int .i64 (i : Int)] w (AnsE w E l) := by
 obtain ⟨w0, hw0⟩ : ∃ w0, w0 = w.alloc (.cells #[.int .i64 k, .int .i64 r, .int .i64 c, .int .i64 q, .slice lo n cl] 26) := ⟨_, rfl⟩
 have b0 : RowKit.Below w.heap.size w w0 := by rw [hw0]; exact below_alloc _ _
 have HB0 : Hid (RowKit.Below w.heap.size w w0) := b0
 have HIM : Hid (∀ v, RowKit.Below w0.heap.size w0 v -> v.cell? ⟨w.heap.size, 0, none⟩ = some (.int .i64 k) /\ v.cell? ⟨w.heap.size, 1, none⟩ = some (.int .i64 r) /\ v.cell? ⟨w.heap.size, 2, none⟩ = some (.int .i64 c) /\ v.cell? ⟨w.heap.size, 3, none⟩ = some (.int .i64 q) /\ v.cell? ⟨w.heap.size, 4, none⟩ = some (.slice lo n cl)) := fun v hv => ⟨blk_held hw0 hv 0 rfl, blk_held hw0 hv 1 rfl, blk_held hw0 hv 2 rfl, blk_held hw0 hv 3 rfl, blk_held hw0 hv 4 rfl⟩
 unfold AnsI at HB
 unfold AnsE at HE ⊢
 have g1 : decide ((i : Int) < 0) = false := decide_eq_false (by omega)
 have g2 : decide (4 <= (i : Int)) = false := decide_eq_false (by omega)
 have hc := HC.out w0 b0
 have hcl : (L.length : Int) = 4 := by rw [hL]; rfl
 clear HC
 go_enter Tryz.func12, Tryz.ntmps12
 go_wp2_with fail
 rw [<- hw0]
 refine hc.mono ?_
 rintro e wa ⟨rfl, ha⟩
 obtain ⟨t0, t1, t2, t3, t4⟩ := HIM.out wa ha
 have HAB : Hid (RowKit.Below w0.heap.size w0 wa) := ha
 clear hc hw0 ha b0
 go_wp2_with fail
 refine (HB.out _ (below_then HB0.out HAB.out)).mono ?_
 rintro e wb ⟨bo, bc, rfl, hob, hb⟩
 have HBB : Hid (RowKit.Below w0.heap.size w0 wb) := below_then HAB.out hb
 obtain ⟨b, off, rfl, hcc⟩ := hob.rei.at_ (by omega)
 have c0 := hcc i (by omega)
 clear t0 t1 t2 t3 t4 hb hob hcc HB
 obtain ⟨t0, t1, t2, t3, t4⟩ := HIM.out wb HBB.out
 obtain ⟨x, hx⟩ : ∃ x, x = L.getD i 0 := ⟨_, rfl⟩
 rw [<- hx] at c0 HE
 have i1 : (0 : Int) <= (i : Int) := by omega
 have i2 : (i : Int) < (L.length : Int) := by omega
 clear hx hcl hL g1 g2
 have KS : Hid (∀ u, RowKit.Below wb.heap.size wb u -> u.cell? ⟨w.heap.size, 0, none⟩ = some (.int .i64 k) /\ u.cell? ⟨w.heap.size, 1, none⟩ = some (.int .i64 r) /\ u.cell? ⟨w.heap.size, 2, none⟩ = some (.int .i64 c) /\ u.cell? ⟨w.heap.size, 3, none⟩ = some (.int .i64 q) /\ u.cell? ⟨w.heap.size, 4, none⟩ = some (.slice lo n cl) /\ u.cell? ⟨b, off + i, none⟩ = some (.int .i64 x)) := fun u hu => ⟨held t0 hu, held t1 hu, held t2 hu, held t3 hu, held t4 hu, held c0 hu⟩
 go_wp2_with fail
 go_region_held3 (fun v => v.cell? ⟨w.heap.size, 0, none⟩ = some (.int .i64 k) /\ v.cell? ⟨w.heap.size, 1, none⟩ = some (.int .i64 r) /\ v.cell? ⟨w.heap.size, 2, none⟩ = some (.int .i64 c) /\ v.cell? ⟨w.heap.size, 3, none⟩ = some (.int .i64 q) /\ v.cell? ⟨w.heap.size, 4, none⟩ = some (.slice lo n cl) /\ v.cell? ⟨b, off + i, none⟩ = some (.int .i64 x)) ((first | (exact KS.out _ (below_drew _ _)) | (exact KS.out _ HD0.out)))
  ((go_at_call 26; refine (HE.out _ (below_then (below_then HB0.out HBB.out) (below_drew _ _))).mono ?_; rintro e wd ⟨uo, uc, rfl, hou, hd0⟩; have HD0 : Hid (RowKit.Below wb.heap.size wb wd) := below_then (below_drew _ _) hd0; have HOU : Hid (OwE wb.drew.heap.size wd uo l uc) := hou; clear hou hd0))
 clear HE KS t0 t1 t2 t3 t4 c0
 have HDD : Hid (RowKit.Below w.heap.size w wd) := below_then (below_then HB0.out HBB.out) HD0.out
 have HO : Hid (OwE w.heap.size wd uo l uc) := HOU.out.mono (below_then HB0.out HBB.out).size
 go_wp2_with fail
 go_ret2
 exact ⟨uo, uc, rfl, HO.out, HDD.out⟩
end Go.Proofs.YtngcdlodcdgcaaaGreat.Dr
