/- Cells said by a function, for the walks of package mem: no array of pages is ever written out. -/
import Derived.Test.YtlpcjonklfnejaaBase
import Derived.Laws.Tables
import Derived.Laws.CopyOwn
import Derived.Laws.CopyRow
namespace Go.Proofs.Ytlpcjonklfnejaa
open Go.RowKit

/-- n cells, said by a function, as the kernel reckons them. -/
def VA0 (n : Nat) (f : Nat → Value) : Array Value := Array.ofFn (n := n) fun i => f i
/-- The same cells, kept shut: no walk looks into them. -/
def VA (n : Nat) (f : Nat → Value) : Array Value := if h : n = 0 then #[] else (VA (n - 1) f).push (f (n - 1))
theorem VA_eq (n : Nat) (f : Nat → Value) : VA n f = VA0 n f := by
  induction n with
  | zero => rw [VA]; simp [VA0]
  | succ n ih =>
    rw [VA]
    simp only [Nat.add_one_ne_zero, dite_false, Nat.add_sub_cancel, ih]
    apply Array.ext_getElem?
    intro i
    rw [Array.getElem?_push]
    have hz : (VA0 n f).size = n := by simp [VA0]
    rw [hz]
    by_cases hi : i = n
    · subst hi; simp [VA0]
    · rw [if_neg hi]
      by_cases hl : i < n
      · simp [VA0, hl, show i < n + 1 by omega]
      · simp [VA0, hl, show ¬ i < n + 1 by omega]
def updV (f : Nat → Value) (i : Nat) (v : Value) : Nat → Value := fun j => if j = i then v else f j
theorem VA_size (n : Nat) (f : Nat → Value) : (VA n f).size = n := by rw [VA_eq]; simp [VA0]
theorem VA_get (n : Nat) (f : Nat → Value) (i : Nat) (h : i < n) : (VA n f)[i]? = some (f i) := by rw [VA_eq]; simp [VA0, h]
theorem VA_none (n : Nat) (f : Nat → Value) (i : Nat) (h : ¬ i < n) : (VA n f)[i]? = none := by rw [VA_eq]; simp [VA0, h]
theorem VA_congr (n : Nat) (f g : Nat → Value) (h : ∀ i, i < n → f i = g i) : VA n f = VA n g := by
  apply Array.ext_getElem?
  intro j
  by_cases hj : j < n
  · rw [VA_get n f j hj, VA_get n g j hj, h j hj]
  · rw [VA_none n f j hj, VA_none n g j hj]
theorem VA_set (n : Nat) (f : Nat → Value) (i : Nat) (v : Value) : (VA n f).setIfInBounds i v = VA n (updV f i v) := by
  apply Array.ext_getElem?
  intro j
  rw [Array.getElem?_setIfInBounds]
  by_cases hj : j < n
  · rw [VA_get n f j hj, VA_get n _ j hj, VA_size]
    by_cases h : i = j
    · subst h; simp [updV, hj]
    · have h' : ¬ j = i := fun e => h e.symm
      simp [h, h', updV]
  · rw [VA_none n f j hj, VA_none n _ j hj, VA_size]
    by_cases h : i = j
    · subst h; simp [hj]
    · simp [h]

/-- Memory, as it stands: a byte at each address below 768, what may be read, what may be written. -/
structure MS where
  byte : Nat → Nat
  rd : Nat → Bool
  wt : Nat → Bool
/-- Its cells: twelve pages of sixty-four bytes and two words each. -/
def cellM (m : MS) (i : Nat) : Value := if i % 66 < 64 then .int .u8 (m.byte (i / 66 * 64 + i % 66)) else if i % 66 = 64 then .bool (m.rd (i / 66)) else .bool (m.wt (i / 66))
theorem cellM_byte (m : MS) (n j : Nat) (hj : j < 64) : cellM m (n * 66 + j) = .int .u8 (m.byte (n * 64 + j)) := by
  unfold cellM
  rw [if_pos (by omega), show (n * 66 + j) / 66 = n by omega, show (n * 66 + j) % 66 = j by omega]
theorem cellM_rd (m : MS) (n : Nat) : cellM m (n * 66 + 64) = .bool (m.rd n) := by
  unfold cellM
  rw [if_neg (by omega), if_pos (by omega), show (n * 66 + 64) / 66 = n by omega]
theorem cellM_wt (m : MS) (n : Nat) : cellM m (n * 66 + 65) = .bool (m.wt n) := by
  unfold cellM
  rw [if_neg (by omega), if_neg (by omega), show (n * 66 + 65) / 66 = n by omega]
def setRd (m : MS) (n : Nat) (b : Bool) : MS := { m with rd := fun k => if k = n then b else m.rd k }
def setWt (m : MS) (n : Nat) (b : Bool) : MS := { m with wt := fun k => if k = n then b else m.wt k }
def setBy (m : MS) (a : Nat) (x : Nat) : MS := { m with byte := fun k => if k = a then x else m.byte k }
theorem upd_rd (m : MS) (n : Nat) (b : Bool) : updV (cellM m) (n * 66 + 64) (.bool b) = cellM (setRd m n b) := by
  funext i
  unfold updV
  by_cases h : i = n * 66 + 64
  · rw [if_pos h, h, cellM_rd]; simp [setRd]
  · rw [if_neg h]
    unfold cellM setRd
    by_cases h1 : i % 66 < 64
    · rw [if_pos h1, if_pos h1]
    · rw [if_neg h1, if_neg h1]
      by_cases h2 : i % 66 = 64
      · rw [if_pos h2, if_pos h2]
        show _ = Value.bool (if i / 66 = n then b else m.rd (i / 66))
        rw [if_neg (by omega)]
      · rw [if_neg h2, if_neg h2]
theorem upd_wt (m : MS) (n : Nat) (b : Bool) : updV (cellM m) (n * 66 + 65) (.bool b) = cellM (setWt m n b) := by
  funext i
  unfold updV
  by_cases h : i = n * 66 + 65
  · rw [if_pos h, h, cellM_wt]; simp [setWt]
  · rw [if_neg h]
    unfold cellM setWt
    by_cases h1 : i % 66 < 64
    · rw [if_pos h1, if_pos h1]
    · rw [if_neg h1, if_neg h1]
      by_cases h2 : i % 66 = 64
      · rw [if_pos h2, if_pos h2]
      · rw [if_neg h2, if_neg h2]
        show _ = Value.bool (if i / 66 = n then b else m.wt (i / 66))
        rw [if_neg (by omega)]
theorem upd_by (m : MS) (n j x : Nat) (hj : j < 64) : updV (cellM m) (n * 66 + j) (.int .u8 x) = cellM (setBy m (n * 64 + j) x) := by
  funext i
  unfold updV
  by_cases h : i = n * 66 + j
  · rw [if_pos h, h, cellM_byte _ n j hj]; simp [setBy]
  · rw [if_neg h]
    unfold cellM setBy
    by_cases h1 : i % 66 < 64
    · rw [if_pos h1, if_pos h1]
      show _ = Value.int .u8 ((if i / 66 * 64 + i % 66 = n * 64 + j then x else m.byte (i / 66 * 64 + i % 66) : Nat) : Int)
      rw [if_neg (by omega)]
    · rw [if_neg h1, if_neg h1]

/-- Memory lies in block g. -/
def IsM (g : Nat) (m : MS) (W : World) : Prop := W.heap[g]? = some (.cells (VA 792 (cellM m)) 115 (0, 0))
theorem IsM.on {g : Nat} {m : MS} {W V : World} (h : IsM g m W) (hb : Below W.heap.size W V) : IsM g m V := (hb.block g (Array.getElem?_eq_some_iff.1 h).1).trans h

/-- A world with a block of memory in it. -/
structure MB where
  W : World
  g : Nat
  m0 : MS
  ok : IsM g m0 W
/-- That world, with this memory in the block, some draws later. -/
def PW (B : MB) (m : MS) (k : Nat) : World := (B.W.setRow B.g (VA 792 (cellM m))).drewN k
theorem PW_heap (B : MB) (m : MS) (k : Nat) : (PW B m k).heap[B.g]? = some (.cells (VA 792 (cellM m)) 115 (0, 0)) := setRow_heap _ _ _ _ _ _ B.ok
theorem PW_isM (B : MB) (m : MS) (k : Nat) : IsM B.g m (PW B m k) := PW_heap B m k
theorem PW_cell (B : MB) (m : MS) (k i : Nat) (hi : i < 792) : (PW B m k).cell? ⟨B.g, i, none⟩ = some (cellM m i) := by
  rw [cell_of_row _ _ i _ _ _ (PW_heap B m k), VA_get 792 _ i hi]
theorem PW_fro (B : MB) (m : MS) (k i : Nat) : (PW B m k).frozen? ⟨B.g, i, none⟩ = false := frozen_of_row _ _ i _ _ (PW_heap B m k)
theorem setRow_again (W : World) (g : Nat) (c0 c1 c2 : Array Value) (t : TypeId) (h : W.heap[g]? = some (.cells c0 t (0, 0))) : (W.setRow g c1).setRow g c2 = W.setRow g c2 := by
  unfold World.setRow
  congr 1
  apply Array.ext_getElem?
  intro j
  simp only [Array.getElem?_modify]
  by_cases hj : g = j
  · subst hj
    simp [h]
  · simp [hj]
theorem PW_row (B : MB) (m m' : MS) (k : Nat) : (PW B m k).setRow B.g (VA 792 (cellM m')) = PW B m' k := by
  unfold PW
  exact congrArg (World.drewN · k) (setRow_again B.W B.g _ _ _ _ B.ok)
theorem PW_set (B : MB) (m : MS) (k i : Nat) (v : Value) (m' : MS) (h : updV (cellM m) i v = cellM m') : (PW B m k).setCell ⟨B.g, i, none⟩ v = PW B m' k := by
  rw [setCell_eq_setRow _ _ i _ _ _ _ (PW_heap B m k), VA_set, h, PW_row]
theorem PW_rd (B : MB) (m : MS) (k n : Nat) (hn : n < 12) : (PW B m k).cell? ⟨B.g, n * 66 + 64, none⟩ = some (.bool (m.rd n)) := by rw [PW_cell B m k _ (by omega), cellM_rd]
theorem PW_wt (B : MB) (m : MS) (k n : Nat) (hn : n < 12) : (PW B m k).cell? ⟨B.g, n * 66 + 65, none⟩ = some (.bool (m.wt n)) := by rw [PW_cell B m k _ (by omega), cellM_wt]
theorem PW_by (B : MB) (m : MS) (k n j : Nat) (hn : n < 12) (hj : j < 64) : (PW B m k).cell? ⟨B.g, n * 66 + j, none⟩ = some (.int .u8 (m.byte (n * 64 + j))) := by rw [PW_cell B m k _ (by omega), cellM_byte _ _ _ hj]
theorem PW_setRd (B : MB) (m : MS) (k n : Nat) (b : Bool) : (PW B m k).setCell ⟨B.g, n * 66 + 64, none⟩ (.bool b) = PW B (setRd m n b) k := PW_set B m k _ _ _ (upd_rd m n b)
theorem PW_setWt (B : MB) (m : MS) (k n : Nat) (b : Bool) : (PW B m k).setCell ⟨B.g, n * 66 + 65, none⟩ (.bool b) = PW B (setWt m n b) k := PW_set B m k _ _ _ (upd_wt m n b)
theorem PW_setBy (B : MB) (m : MS) (k n j x : Nat) (hj : j < 64) : (PW B m k).setCell ⟨B.g, n * 66 + j, none⟩ (.int .u8 x) = PW B (setBy m (n * 64 + j) x) k := PW_set B m k _ _ _ (upd_by m n j x hj)
theorem PW_drewN (B : MB) (m : MS) (k n : Nat) : (PW B m k).drewN n = PW B m (k + n) := by unfold PW; rw [World.drewN_drewN]
theorem PW_drew (B : MB) (m : MS) (k : Nat) : (PW B m k).drew = PW B m (k + 1) := PW_drewN B m k 1
/-- Any world that holds memory is of this form. -/
theorem PW_of {g : Nat} {m : MS} {W : World} (h : IsM g m W) : W = PW ⟨W, g, m, h⟩ m 0 := by
  show W = (W.setRow g (VA 792 (cellM m))).drewN 0
  rw [show (W.setRow g (VA 792 (cellM m))) = W from setRow_self W g _ _ _ h]
  rfl
end Go.Proofs.Ytlpcjonklfnejaa
