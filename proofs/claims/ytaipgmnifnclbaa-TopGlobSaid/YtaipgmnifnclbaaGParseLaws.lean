/- Laws for the loop of glob.parse: a slice of parts of the call's own. -/
import Derived.Test.YtaipgmnifnclbaaGFirst
namespace Go.Proofs.Ytaipgmnifnclbaa
open Go.RowKit

abbrev Part := (Nat → Bool) × Bool
def flat (ps : List Part) : List Value := ps.flatMap fun p => (LA 257 (PF p.1 p.2)).toList
theorem flat_nil : flat [] = [] := rfl
theorem flat_snoc (ps : List Part) (p : Part) : flat (ps ++ [p]) = flat ps ++ (LA 257 (PF p.1 p.2)).toList := by simp [flat]
theorem flat_length (ps : List Part) : (flat ps).length = ps.length * 257 := by
  induction ps with
  | nil => rfl
  | cons p ps ih =>
    have : flat (p :: ps) = (LA 257 (PF p.1 p.2)).toList ++ flat ps := by simp [flat]
    rw [this, List.length_append, ih, Array.length_toList, LA_size, List.length_cons]
    omega

/-- A part read out of its block. -/
theorem wpList_load_part {ops : Array Oper} {rest : List Oper} {o : Oper} {a : Act} {w : World} {Q : Exit → Act → World → Prop} (hgd : o.guard = none) (x : Operand) (ho : o.op = .load 47 x)
    (g : Nat) (hx : a.eval x = .pointer (some ⟨g, 0, none⟩)) (f : Nat → Bool) (hg : w.heap[g]? = some (.cells (LA 257 f) 47 (0, 0)))
    (h : wpList Try.prog ops Q rest (a.put o.dst (.agg (LA 257 f))) w) : wpList Try.prog ops Q (o :: rest) a w :=
  wpList_load_row hgd 47 x ho g hx 47 (LA 257 f) (0, 0) _ hg Try.underlying47 rfl (by rw [LA_size]; exact size_part) h

theorem info_part : ∃ i, Try.prog.info? 47 = some i ∧ i.zero = some (.agg (LA 257 fun _ => false)) ∧ i.size = 257 ∧ i.bytes = 257 := by
  have hz := zero_part
  have hs := size_part
  have hb : (Try.prog.info? 47).map (·.bytes) = some 257 := by kernel_rfl
  cases hq : Try.prog.info? 47 with
  | none => rw [hq] at hs; simp at hs
  | some i =>
    rw [hq] at hz hs hb
    simp at hz hs hb
    exact ⟨i, rfl, hz, hs, hb⟩

theorem fill_parts (F : Nat → Bool) : Instr.fill (fun i => some (i * 257, 257)) ((Array.range (1 * 257)).map ((LA0 257 fun _ => false)[· % (LA0 257 fun _ => false).size]!)) [(0, .agg (LA0 257 F))] = some (LA0 257 F) := by kernel_rfl

/-- '[]part{x}' for an append: a new block with the part in it. -/
theorem wpList_buildSlice_part {ops : Array Oper} {rest : List Oper} {o : Oper} {a : Act} {w : World} {Q : Exit → Act → World → Prop} (hg : o.guard = none) (x : Operand) (ho : o.op = .buildSlice 34 1 #[(0, x)])
    (F : Nat → Bool) (hx : a.eval x = .agg (LA 257 F)) (h : wpList Try.prog ops Q rest (a.put o.dst (.slice (some ⟨w.heap.size, 0, none⟩) 1 1)) (w.alloc (.cells (LA 257 F) 47))) : wpList Try.prog ops Q (o :: rest) a w := by
  obtain ⟨i, hi, hz, hs, _⟩ := info_part
  refine wpList_buildSlice hg 34 47 1 #[(0, x)] ho (LA 257 F) i _ Try.underlying34 hi hz (by rw [hs]; decide) (by rw [hs]; decide) ?_ h
  rw [hs]
  have := fill_parts F
  simp only [Value.cells]
  simpa [hx, LA_eq] using this

theorem grown_of_below {w w' : World} (h : Below w.heap.size w w') : w.grownBy w' none := ⟨h.os, h.tape, h.output, h.size, fun k hk _ => h.block k hk⟩

theorem owns_later {w w' : World} {base n : Nat} {v : Value} {xs : List Value} (h : w.ownsRow base 47 257 v n xs) (hb : Below w.heap.size w w') : w'.ownsRow base 47 257 v n xs := by
  refine h.kept (grown_of_below hb) ?_
  cases hv : v.ownBlock with
  | none => exact .inl rfl
  | some k => exact .inr (by simp)

theorem wpList_append_part {ops : Array Oper} {rest : List Oper} {o : Oper} {a : Act} {w : World} {Q : Exit → Act → World → Prop} (hgd : o.guard = none) (s x : Operand)
    (ho : o.op = .call { callee := .builtin .append, args := #[s, x], argTypes := #[34, 34] })
    (base : Nat) (v : Value) (ps : List Part) (hs : a.eval s = v) (hown : w.ownsRow base 47 257 v ps.length (flat ps))
    (g : Nat) (hx : a.eval x = .slice (some ⟨g, 0, none⟩) 1 1) (p : Part) (hg : w.heap[g]? = some (.cells (LA 257 (PF p.1 p.2)) 47 (0, 0)))
    (hn : ps.length ≤ 1000) (hbase : base ≤ w.heap.size)
    (h : ∀ v' w', w'.ownsRow base 47 257 v' (ps.length + 1) (flat (ps ++ [p])) → w.grownBy w' v.ownBlock → wpList Try.prog ops Q rest (a.put o.dst v') w') : wpList Try.prog ops Q (o :: rest) a w := by
  obtain ⟨i, hi, hz, hsz, hby⟩ := info_part
  refine wpList_append_own (P := Try.prog) w hgd s x 34 ho base 47 i _ 257 257 Try.underlying34 hi hz hsz hby (by simp [Value.cells, LA_size]) (by decide) v ps.length (flat ps) hs hown ⟨g, 0, none⟩ 1 1 (LA 257 (PF p.1 p.2)).toList hx (by simp [LA_size]) ?_ ?_ (by simp only [maxLen]; omega) (by omega) hbase ?_
  · intro j u hu
    have hadd : (⟨g, 0, none⟩ : Addr).add j = ⟨g, j, none⟩ := by unfold Addr.add; split <;> simp_all
    rw [hadd, cell_of_row w g j _ _ _ hg]
    simpa using hu
  · intro u hu
    have := LA_one 257 (PF p.1 p.2)
    rw [Array.all_eq_true_iff_forall_mem] at this
    exact this u (by simpa using hu)
  · intro v' w' h1 h2 _
    refine h v' w' ?_ h2
    rw [flat_snoc]
    exact h1
end Go.Proofs.Ytaipgmnifnclbaa
