/- What the walk of the document's like wants: pieces, rows of bools of the call's own, the rows' meaning. -/
import Derived.Test.YtaipgmnifnclbaaGReach
namespace Go.Proofs.Ytaipgmnifnclbaa
open Go.RowKit

theorem info_bool : ∃ i, Try.prog.info? 4 = some i ∧ i.zero = some (.bool false) ∧ i.size = 1 ∧ i.bytes = 1 := by
  have hz : (Try.prog.info? 4).map (·.zero) = some (some (.bool false)) := by kernel_rfl
  have hs : (Try.prog.info? 4).map (·.size) = some 1 := by kernel_rfl
  have hb : (Try.prog.info? 4).map (·.bytes) = some 1 := by kernel_rfl
  cases hq : Try.prog.info? 4 with
  | none => rw [hq] at hs; simp at hs
  | some i =>
    rw [hq] at hz hs hb
    simp at hz hs hb
    exact ⟨i, rfl, hz, hs, hb⟩

theorem made_LA (n : Nat) : madeCells (Value.bool false).cells n = LA n fun _ => false := by
  apply Array.ext_getElem?
  intro i
  by_cases h : i < n
  · rw [LA_get n _ i h]
    simp [madeCells, Value.cells, h, Nat.mod_one]
  · have e1 : (madeCells (Value.bool false).cells n)[i]? = none := by simp [size_madeCells]; omega
    have e2 : (LA n fun _ => false)[i]? = none := by simp [LA_size]; omega
    rw [e1, e2]

/-- 'make([]bool, n)'. -/
theorem wpList_make_bools {ops : Array Oper} {rest : List Oper} {o : Oper} {a : Act} {w : World} {Q : Exit → Act → World → Prop} (hgd : o.guard = none) (x y : Operand) (ho : o.op = .makeSlice 52 x y) (n : Nat)
    (hx : a.eval x = .int .i64 n) (hy : a.eval y = .int .i64 n) (hn : n ≤ 10000)
    (h : wpList Try.prog ops Q rest (a.put o.dst (.slice (some ⟨w.heap.size, 0, none⟩) n n)) (w.alloc (.cells (LA n fun _ => false) 4))) : wpList Try.prog ops Q (o :: rest) a w := by
  obtain ⟨i, hi, hz, hs, hb⟩ := info_bool
  have hr := run_make (P := Try.prog) w 52 4 i _ Try.underlying52 hi hz .i64 .i64 (n : Int) (n : Int) (by omega) (by omega) (by rw [hb]; omega) (by omega)
  rw [hs, Int.toNat_natCast, Nat.mul_one, made_LA] at hr
  refine wpList_plain hgd fun _ hK => ?_
  unfold Oper.wp execOp
  simp only [ho, hx, hy, Sem.run_bind, hr, Result.andThen_ok]
  exact hK _ _ h

/-- A piece of a pattern. -/
def pieceAt (p : ByteArray) (cs : List (Nat × Nat)) (i : Nat) : ByteArray := p.extract (cs.getD i (0, 0)).1 ((cs.getD i (0, 0)).1 + (cs.getD i (0, 0)).2)
theorem extract_twice (p : ByteArray) (a n : Nat) (h : a + n ≤ p.size) : p.extract a (a + n) = (p.extract a p.size).extract 0 n := by
  apply ByteArray.ext
  apply Array.ext'
  rw [Lib.extract_data, Lib.extract_data, Lib.extract_data]
  simp only [Nat.sub_zero, List.drop_zero, Nat.add_sub_cancel_left, List.take_take]
  congr 1
  omega

theorem piece_facts {p : ByteArray} {cs : List (Nat × Nat)} {ps : List Part} (h : Cut p cs ps) (hz : p.size ≤ 1000) {i : Nat} (hi : i < ps.length) :
    1 ≤ (pieceAt p cs i).size ∧ (pieceAt p cs i).size ≤ 1000 ∧
    (manyAt ps i = true → byteAt (pieceAt p cs i) 0 = 42 ∧ (((pieceAt p cs i).size = 2 ∧ ∀ c, likeAt ps i c = true) ∨ ((pieceAt p cs i).size ≠ 2 ∧ ∀ c, likeAt ps i c = (c != 47)))) ∧
    (manyAt ps i = false → byteAt (pieceAt p cs i) 0 ≠ 42 ∧ ∀ (c : Nat), c < 256 → ∀ w, Calls Try.prog 21 #[.string (pieceAt p cs i), .int .u8 c] w fun r w' => r = .returned (.bool (likeAt ps i c)) ∧ w' = w) := by
  obtain ⟨ha, hf⟩ := h.2 i hi
  generalize likeAt ps i = f at *
  generalize manyAt ps i = m at *
  unfold pieceAt
  generalize (cs.getD i (0, 0)).1 = a at *
  generalize (cs.getD i (0, 0)).2 = n at *
  have hs : 1 ≤ (p.extract a p.size).size := by rw [size_extract]; omega
  have hb := firstR_bound hs hf
  rw [size_extract] at hb
  have hsz : (p.extract a (a + n)).size = n := by simp; omega
  have hb0 : byteAt (p.extract a (a + n)) 0 = byteAt (p.extract a p.size) 0 := by
    rw [extract_twice p a n (by omega)]
    unfold byteAt
    rw [Lib.extract_data (p.extract a p.size)]
    simp [List.getD_eq_getElem?_getD, List.getElem?_take, show 0 < n by omega]
  refine ⟨by omega, by omega, ?_, ?_⟩
  · intro hm
    subst hm
    rw [hb0, hsz]
    unfold firstR at hf
    split at hf
    · rename_i hst
      simp only [Option.some.injEq, Prod.mk.injEq] at hf
      obtain ⟨rfl, _, rfl⟩ := hf
      simp only [starsB, Bool.and_eq_true, beq_iff_eq] at hst
      exact ⟨hst.1.2, .inl ⟨rfl, fun c => rfl⟩⟩
    · split at hf
      · rename_i h42
        simp only [Option.some.injEq, Prod.mk.injEq] at hf
        obtain ⟨rfl, _, rfl⟩ := hf
        refine ⟨h42, .inr ⟨by omega, fun c => ?_⟩⟩
        rw [Bool.eq_iff_iff]; simp [notF, onlyF, upd]
      · exfalso
        split at hf
        · simp at hf
        · split at hf
          · unfold classP at hf
            cases hc : classR (p.extract a p.size) <;> simp [hc] at hf
          · split at hf
            · unfold escR at hf
              split at hf <;> simp at hf
            · split at hf <;> simp at hf
  · intro hm
    subst hm
    rw [hb0]
    constructor
    · intro h42
      unfold firstR at hf
      rw [if_pos h42] at hf
      split at hf <;> simp at hf
    · intro c hc w
      exact single_any (p.extract a p.size) _ c n f hc hs (by rw [size_extract]; omega) hf (extract_twice p a n (by omega)) w

/-- The world in the midst of like: the row that is, the row that comes. -/
def LW (w : World) (L g g2 : Nat) (r h : Nat → Bool) (W : World) : Prop := Below w.heap.size w W ∧ w.heap.size ≤ g ∧ g < g2 ∧ W.heap[g]? = some (.cells (LA (L + 1) r) 4 (0, 0)) ∧ W.heap[g2]? = some (.cells (LA (L + 1) h) 4 (0, 0))
theorem LW.drewN {w : World} {L g g2 : Nat} {r h : Nat → Bool} {W : World} (x : LW w L g g2 r h W) (n : Nat) : LW w L g g2 r h (W.drewN n) := ⟨below_drewN' x.1 n, x.2.1, x.2.2.1, x.2.2.2.1, x.2.2.2.2⟩
theorem LW.set {w : World} {L g g2 : Nat} {r h : Nat → Bool} {W : World} (x : LW w L g g2 r h W) (i : Nat) (b : Bool) : LW w L g g2 r (upd h i b) (W.setCell ⟨g2, i, none⟩ (.bool b)) := by
  obtain ⟨h1, h2, h3, h4, h5⟩ := x
  refine ⟨h1.setCell (p := ⟨g2, i, none⟩) (show w.heap.size ≤ g2 by omega) _, h2, h3, ?_, ?_⟩
  · rw [heap_setCell_other _ _ _ _ (show g ≠ g2 by omega)]; exact h4
  · rw [heap_setCell_same W g2 i _ _ _ h5, LA_set]
theorem LW.cell {w : World} {L g g2 : Nat} {r h : Nat → Bool} {W : World} (x : LW w L g g2 r h W) (i : Nat) (hi : i ≤ L) : W.cell? ⟨g, i, none⟩ = some (.bool (r i)) := by
  rw [cell_of_row _ _ i _ _ _ x.2.2.2.1, LA_get _ _ i (by omega)]
theorem LW.cell2 {w : World} {L g g2 : Nat} {r h : Nat → Bool} {W : World} (x : LW w L g g2 r h W) (i : Nat) (hi : i ≤ L) : W.cell? ⟨g2, i, none⟩ = some (.bool (h i)) := by
  rw [cell_of_row _ _ i _ _ _ x.2.2.2.2, LA_get _ _ i (by omega)]
theorem LW.frozen2 {w : World} {L g g2 : Nat} {r h : Nat → Bool} {W : World} (x : LW w L g g2 r h W) (i : Nat) : W.frozen? ⟨g2, i, none⟩ = false := frozen_of_row _ _ i _ _ x.2.2.2.2

def MidOne (f r : Nat → Bool) (s : ByteArray) (i x : Nat) : Prop := ∃ k, k < i ∧ k < s.size ∧ r k = true ∧ f (byteAt s k) = true ∧ x = k + 1
def MidMany (f r : Nat → Bool) (s : ByteArray) (i x : Nat) : Prop := ∃ k, k < i ∧ k ≤ x ∧ r k = true ∧ ∀ y, k ≤ y → y < x → f (byteAt s y) = true

theorem midOne_skip {f r : Nat → Bool} {s : ByteArray} {i x : Nat} (h : r i = false ∨ ¬ i < s.size ∨ f (byteAt s i) = false) : MidOne f r s (i + 1) x ↔ MidOne f r s i x := by
  constructor
  · rintro ⟨k, a, b, c, d, e⟩
    refine ⟨k, ?_, b, c, d, e⟩
    by_cases hk : k = i
    · subst hk
      rcases h with h | h | h
      · rw [h] at c; simp at c
      · exact absurd b h
      · rw [h] at d; simp at d
    · omega
  · rintro ⟨k, a, r⟩
    exact ⟨k, by omega, r⟩
theorem midOne_add {f r : Nat → Bool} {s : ByteArray} {i x : Nat} (h1 : r i = true) (h2 : i < s.size) (h3 : f (byteAt s i) = true) : MidOne f r s (i + 1) x ↔ (x = i + 1 ∨ MidOne f r s i x) := by
  constructor
  · rintro ⟨k, a, b, c, d, e⟩
    by_cases hk : k = i
    · subst hk; exact .inl e
    · exact .inr ⟨k, by omega, b, c, d, e⟩
  · rintro (rfl | ⟨k, a, r⟩)
    · exact ⟨i, by omega, h2, h1, h3, rfl⟩
    · exact ⟨k, by omega, r⟩
theorem midMany_skip {f r : Nat → Bool} {s : ByteArray} {i x : Nat} (h : r i = false) : MidMany f r s (i + 1) x ↔ MidMany f r s i x := by
  constructor
  · rintro ⟨k, a, b, c, d⟩
    refine ⟨k, ?_, b, c, d⟩
    by_cases hk : k = i
    · subst hk; rw [h] at c; simp at c
    · omega
  · rintro ⟨k, a, r⟩
    exact ⟨k, by omega, r⟩
theorem midMany_add {f r : Nat → Bool} {s : ByteArray} {i j x : Nat} (hij : i ≤ j) (h1 : r i = true) (h2 : ∀ y, i ≤ y → y < j → f (byteAt s y) = true) (h3 : j = s.size ∨ f (byteAt s j) = false) (hx : x ≤ s.size) : MidMany f r s (i + 1) x ↔ (MidMany f r s i x ∨ (i ≤ x ∧ x ≤ j)) := by
  constructor
  · rintro ⟨k, a, b, c, d⟩
    by_cases hk : k = i
    · subst hk
      refine .inr ⟨b, ?_⟩
      by_cases hj : x ≤ j
      · exact hj
      · exfalso
        rcases h3 with h3 | h3
        · omega
        · have := d j hij (by omega)
          rw [h3] at this
          simp at this
    · exact .inl ⟨k, by omega, b, c, d⟩
  · rintro (⟨k, a, r⟩ | ⟨a, b⟩)
    · exact ⟨k, by omega, r⟩
    · exact ⟨i, by omega, a, h1, fun y c d => h2 y c (by omega)⟩

theorem reach_of_one {ps : List Part} {s : ByteArray} {k x : Nat} (hm : manyAt ps k = false) (hx : x ≤ s.size) : reach ps s (k + 1) x = true ↔ MidOne (likeAt ps k) (reach ps s k) s (s.size + 1) x := by
  show rowOf _ _ _ _ _ = true ↔ _
  rw [hm, rowOf_one]
  constructor
  · rintro ⟨i, a, b, c⟩
    exact ⟨i, by omega, by omega, a, b, c⟩
  · rintro ⟨i, _, _, a, b, c⟩
    exact ⟨i, a, b, c⟩
theorem reach_of_many {ps : List Part} {s : ByteArray} {k x : Nat} (hm : manyAt ps k = true) (hx : x ≤ s.size) : reach ps s (k + 1) x = true ↔ MidMany (likeAt ps k) (reach ps s k) s (s.size + 1) x := by
  show rowOf _ _ _ _ _ = true ↔ _
  rw [hm, rowOf_many]
  constructor
  · rintro ⟨i, a, b, c⟩
    exact ⟨i, by omega, a, b, c⟩
  · rintro ⟨i, _, a, b, c⟩
    exact ⟨i, a, b, c⟩
end Go.Proofs.Ytaipgmnifnclbaa
