/- The composite literals of a part, as the table of types gives them. -/
import Derived.Test.YtaipgmnifnclbaaGArr2
namespace Go.Proofs.Ytaipgmnifnclbaa
open Go.RowKit
/-- A composite literal of one part. -/
theorem wpList_build_one {P : Program} {ops : Array Oper} {rest : List Oper} {o : Oper} {a : Act} {w : World} {Q : Exit → Act → World → Prop} (hg : o.guard = none) (t : TypeId) (i : Nat) (x : Operand) (ho : o.op = .build t #[(i, x)])
    (v : Value) (hx : a.eval x = v) (cells : Array Value) (hf : P.built t [(i, v)] = some cells) (h : wpList P ops Q rest (a.put o.dst (.agg cells)) w) : wpList P ops Q (o :: rest) a w :=
  wpList_buildTo hg t #[(i, x)] ho _ rfl cells (by simpa [hx] using hf) h
/-- .. of two parts. -/
theorem wpList_build_two {P : Program} {ops : Array Oper} {rest : List Oper} {o : Oper} {a : Act} {w : World} {Q : Exit → Act → World → Prop} (hg : o.guard = none) (t : TypeId) (i j : Nat) (x y : Operand) (ho : o.op = .build t #[(i, x), (j, y)])
    (v u : Value) (hx : a.eval x = v) (hy : a.eval y = u) (cells : Array Value) (hf : P.built t [(i, v), (j, u)] = some cells) (h : wpList P ops Q rest (a.put o.dst (.agg cells)) w) : wpList P ops Q (o :: rest) a w :=
  wpList_buildTo hg t #[(i, x), (j, y)] ho _ rfl cells (by simpa [hx, hy] using hf) h
theorem built_part0 : Try.prog.built 47 [] = some (LA 257 fun _ => false) := by rw [LA_eq]; kernel_rfl
theorem built_part1 (f : Nat → Bool) : Try.prog.built 47 [(0, .agg (LA 256 f))] = some (LA 257 (PF f false)) := by rw [LA_eq, LA_eq]; kernel_rfl
theorem built_part2 (f : Nat → Bool) (m : Bool) : Try.prog.built 47 [(0, .agg (LA 256 f)), (1, .bool m)] = some (LA 257 (PF f m)) := by rw [LA_eq, LA_eq]; kernel_rfl
theorem built_like0 : Try.prog.built 45 [] = some (LA 256 fun _ => false) := by rw [LA_eq]; kernel_rfl
end Go.Proofs.Ytaipgmnifnclbaa
