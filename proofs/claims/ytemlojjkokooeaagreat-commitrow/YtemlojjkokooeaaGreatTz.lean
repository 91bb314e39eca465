/- Short forms of this claim's texts. -/
import Derived.Below
import Derived.KernelRfl
namespace Go.Proofs.YtemlojjkokooeaaGreat
open Go.RowKit
abbrev b7 (w w':World):Prop:=Below w.heap.size w w'
abbrev Pz (k r c q:Int):Value:=.agg #[.int .i64 k,.int .i64 r,.int .i64 c,.int .i64 q]
theorem am {p:Prop}(h:p):Hid p:=h
theorem km {α:Sort _}(a:α):∃ b,a=b:=⟨_,rfl⟩
theorem fd {α:Sort _}(a:α):∃ b,b=a:=⟨_,rfl⟩
theorem jt {w w0:World}{o:Obj}(h:w0=w.alloc o):Below w.heap.size w w0:=by rw [h]; exact (Below.refl _ w).alloc (Nat.le_refl _) o
theorem ks {w w0:World}{o:Obj}(h:w0=w.alloc o):w0.heap.size=w.heap.size+1:=by rw [h]; simp
theorem jM (w:World)(k r c q:Int):∃ w0,w0=w.alloc (.cells #[.int .i64 k,.int .i64 r,.int .i64 c,.int .i64 q] 23):=⟨_,rfl⟩
theorem za {p:Prop}(h:p:=by omega):p:=h
theorem zb {p:Prop}(h:p:=by decide):p:=h
theorem zg {p:Prop}(h:p:=by rfl):p:=h
theorem zh {p:Prop}(h:p:=by kernel_rfl):p:=h
theorem zi {p:Prop}(h:p:=by simp):p:=h
theorem zj {p:Prop}(h:p:=by simp;omega):p:=h
theorem zk {c:Prop}{h:Decidable c}(hc:c){α:Sort _}{t e:α}:ite c t e=t:=if_pos hc
theorem zl {c:Prop}{h:Decidable c}(hc:¬c){α:Sort _}{t e:α}:ite c t e=e:=if_neg hc
theorem zm {p:Prop}[i:Decidable p](h:p):decide p=true:=decide_eq_true h
theorem zp {p:Prop}[i:Decidable p](h:¬p):decide p=false:=decide_eq_false h
end Go.Proofs.YtemlojjkokooeaaGreat
