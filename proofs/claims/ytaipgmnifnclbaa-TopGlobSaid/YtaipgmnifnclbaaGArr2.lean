/- Whole arrays of bools read, laid and handed back. -/
import Derived.Test.YtaipgmnifnclbaaGArr
namespace Go.Proofs.Ytaipgmnifnclbaa
open Go.RowKit

/-- A whole array of bools read out of its block. -/
theorem wpList_load_LA {P : Program} {ops : Array Oper} {rest : List Oper} {o : Oper} {a : Act} {w : World} {Q : Exit → Act → World → Prop} (t : TypeId) (n k : Nat) (e : TypeId) (hgd : o.guard = none) (x : Operand) (ho : o.op = .load t x)
    (g : Nat) (hx : a.eval x = .pointer (some ⟨g, 0, none⟩)) (hu : P.underlying t = some (.array k e)) (hi : (P.info? t).map (·.size) = some n) (f : Nat → Bool) (t' : TypeId) (hg : w.heap[g]? = some (.cells (LA n f) t' (0, 0)))
    (h : wpList P ops Q rest (a.put o.dst (.agg (LA n f))) w) : wpList P ops Q (o :: rest) a w :=
  wpList_load_row hgd t x ho g hx t' (LA n f) (0, 0) _ hg hu rfl (by rw [LA_size]; exact hi) h

/-- A whole array of bools laid into a block that holds as many. -/
theorem wpList_store_LA {P : Program} {ops : Array Oper} {rest : List Oper} {o : Oper} {a : Act} {w : World} {Q : Exit → Act → World → Prop} (t : TypeId) (n : Nat) (hgd : o.guard = none) (x y : Operand) (ho : o.op = .store t x y)
    (g : Nat) (hx : a.eval x = .pointer (some ⟨g, 0, none⟩)) (f : Nat → Bool) (hy : a.eval y = .agg (LA n f)) (hi : (P.info? t).map (·.size) = some n) (f' : Nat → Bool) (t' : TypeId) (hg : w.heap[g]? = some (.cells (LA n f') t' (0, 0)))
    (h : wpList P ops Q rest (a.put o.dst undef) (w.setRow g (LA n f))) : wpList P ops Q (o :: rest) a w :=
  wpList_store_row hgd t x y ho g (LA n f) hx hy t' (LA n f') hg (by rw [LA_size]; exact hi) (by rw [LA_size, LA_size]) (LA_one _ _) h

/-- The result that lies in a block of bools. -/
theorem results_LA {P : Program} {fn : Func} {p : Tmp} {t : TypeId} (n k : Nat) (e : TypeId) (h : fn.results = #[.cell p t]) (tmps : Array Value) (w : World) (g : Nat) (f : Nat → Bool) (t' : TypeId)
    (hp : tmps.getD p undef = .pointer (some ⟨g, 0, none⟩)) (hg : w.heap[g]? = some (.cells (LA n f) t' (0, 0)))
    (hu : P.underlying t = some (.array k e)) (hi : (P.info? t).map (·.size) = some n) :
    (results fn tmps).run P w = .ok (.agg (LA n f)) w :=
  results_cell_row h tmps w g t' (LA n f) (0, 0) _ hp hg hu rfl (by rw [LA_size]; exact hi)

theorem heap_setRow_same {w : World} {g : Nat} {cs : Array Value} {t : TypeId} (cs' : Array Value) (h : w.heap[g]? = some (.cells cs t (0, 0))) : (w.setRow g cs').heap[g]? = some (.cells cs' t (0, 0)) := setRow_heap w g cs cs' t (0, 0) h
theorem LA_at (n : Nat) (f : Nat → Bool) (i : Nat) (h : i < (LA n f).size) : (LA n f)[i] = .bool (f i) := by
  have := LA_get n f i (by rw [LA_size] at h; exact h)
  rw [Array.getElem?_eq_getElem h] at this
  exact Option.some.inj this
end Go.Proofs.Ytaipgmnifnclbaa
