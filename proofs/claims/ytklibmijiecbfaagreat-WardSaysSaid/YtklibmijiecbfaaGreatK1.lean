/- Small lemmas of my own that every walk of this seat uses: a world forgotten but for what is said of it, a fact hidden, old cells behind 'Below'. -/
import Derived.Test.YtklibmijiecbfaaGreatRows
import Derived.WalkKit
import Derived.WalkSpells
import Derived.WalkLawsBesides
import Derived.Deep.QuietTactic
import Derived.BigQuiet
import Derived.Handy
import Derived.Great.BuildSlice
import Derived.Deep.WholeRow
import Derived.Laws.Tables
import Derived.Laws.CopyOwn
import Derived.Laws.CopyRow
import Derived.Lib.BufferWrite
import Derived.Laws.MakeOwn
namespace Go.Proofs.YtklibmijiecbfaaGreat
open Go.RowKit

theorem hide {p : Prop} (h : p) : Hid p := h

theorem wp_forget {P : Program} {c : Code} {Q : Exit → Act → World → Prop} {a : Act} {W0 : World} (F : World → Prop) (h : F W0) (H : ∀ W, F W → Code.wp P c Q a W) : Code.wp P c Q a W0 := H _ h

theorem bcell {W w1 : World} (hb : Below W.heap.size W w1) : (∀ b o, b < W.heap.size → w1.cell? ⟨b, o, none⟩ = W.cell? ⟨b, o, none⟩) ∧ (∀ b o, b < W.heap.size → w1.frozen? ⟨b, o, none⟩ = W.frozen? ⟨b, o, none⟩) :=
 ⟨fun b o h => hb.cell (p := ⟨b, o, none⟩) h, fun b o h => hb.frozen (p := ⟨b, o, none⟩) h⟩

theorem ret_int {k : IntKind} {a b : Int} (h : a = b) : Ending.returned (.int k a) = .returned (.int k b) := by rw [h]
theorem ret_bool {a b : Bool} (h : a = b) : Ending.returned (.bool a) = .returned (.bool b) := by rw [h]

theorem below_drewN' {B : Nat} {a w : World} (h : Below B a w) (n : Nat) : Below B a (w.drewN n) := ⟨h.os, h.tape, h.output, h.size, h.block⟩

theorem quiet_same {P : Program} {f : FuncId} {args : Array Value} {w : World} {a n : Nat} {v : Value}
  (h : Calls P f args (w.drewN (a + n)) fun e w' => e = .returned v ∧ w' = w.drewN (a + n)) : Calls P f args (w.drewN (a + n)) fun e w'' => e = .returned v ∧ ∃ m, w'' = w.drewN (a + m) :=
 h.mono fun _ _ ⟨he, hm⟩ => ⟨he, n, hm⟩
theorem same_nil (f : Int) (w : World) :
  Calls Tryz.prog 10 #[.nilIface, .int .i64 f] w fun e w' => e = .returned (.bool (f == 0)) ∧ w' = w := by
 go_enter Tryz.func10, Tryz.ntmps10
 go_wp2
 go_ret
 exact ⟨rfl, rfl⟩

theorem assert_errno (n : Int) (w : World) : (Instr.typeAssert (.iface 82 (.int .i64 n)) 34 82 true).run Tryz.prog w = .ok (.tuple #[.int .i64 n, .bool true]) w := by kernel_rfl

theorem same_errno (n f : Int) (w : World) :
  Calls Tryz.prog 10 #[.iface 82 (.int .i64 n), .int .i64 f] w fun e w' => e = .returned (.bool (decide (0 < f) && n == f)) ∧ w' = w := by
 have ta := assert_errno n
 by_cases h : 0 < f
 ·
  go_enter Tryz.func10, Tryz.ntmps10
  go_wp2
  go_ret
  exact ⟨by simp [h], rfl⟩
 ·
  have hd : decide (0 < f) = false := by simpa using h
  rw [hd]
  go_enter Tryz.func10, Tryz.ntmps10
  go_wp2
  go_ret
  exact ⟨rfl, rfl⟩
theorem LT1 {α : Type} {l : List α} {i : Nat} {a : α} : l.toArray.setIfInBounds i a = (l.set i a).toArray := List.setIfInBounds_toArray l i a
theorem LT2 {α : Type} {a b : α} {l : List α} : (a :: l).set 0 b = b :: l := List.set_cons_zero
theorem LT3 {α : Type} {a b : α} {l : List α} {n : Nat} : (a :: l).set (n + 1) b = a :: l.set n b := List.set_cons_succ
end Go.Proofs.YtklibmijiecbfaaGreat

/- Cells said by a function, for the walks of package mem: no array of pages is ever written out. -/
namespace Go.Proofs.YtklibmijiecbfaaGreat.Bp
end Go.Proofs.YtklibmijiecbfaaGreat.Bp
namespace Go.Proofs.YtklibmijiecbfaaGreat.Mm
open Go.Proofs.YtklibmijiecbfaaGreat.Bp
open Go.RowKit

def VA0 (n : Nat) (f : Nat → Value) : Array Value := Array.ofFn (n := n) fun i => f i
def VA (n : Nat) (f : Nat → Value) : Array Value := if h : n = 0 then #[] else (VA (n - 1) f).push (f (n - 1))
theorem VA_eq (n : Nat) (f : Nat → Value) : VA n f = VA0 n f := by
 induction n with
 | zero => rw [VA]; simp [VA0]
 | succ n ih =>
  rw [VA]
  simp only [Nat.add_one_ne_zero, dite_false, Nat.add_sub_cancel, ih]
  apply Array.ext_getElem?
  intro i
  rw [Array.getElem?_push]
  have hz : (VA0 n f).size = n := by simp [VA0]
  rw [hz]
  by_cases hi : i = n
  ·
   subst hi; simp [VA0]
  ·
   rw [if_neg hi]
   by_cases hl : i < n
   ·
    simp [VA0, hl, show i < n + 1 by omega]
   ·
    simp [VA0, hl, show ¬ i < n + 1 by omega]
def updV (f : Nat → Value) (i : Nat) (v : Value) : Nat → Value := fun j => if j = i then v else f j
theorem VA_size (n : Nat) (f : Nat → Value) : (VA n f).size = n := by rw [VA_eq]; simp [VA0]
theorem VA_get (n : Nat) (f : Nat → Value) (i : Nat) (h : i < n) : (VA n f)[i]? = some (f i) := by rw [VA_eq]; simp [VA0, h]
theorem VA_none (n : Nat) (f : Nat → Value) (i : Nat) (h : ¬ i < n) : (VA n f)[i]? = none := by rw [VA_eq]; simp [VA0, h]
theorem VA_congr (n : Nat) (f g : Nat → Value) (h : ∀ i, i < n → f i = g i) : VA n f = VA n g := by
 apply Array.ext_getElem?
 intro j
 by_cases hj : j < n
 ·
  rw [VA_get n f j hj, VA_get n g j hj, h j hj]
 ·
  rw [VA_none n f j hj, VA_none n g j hj]
theorem VA_set (n : Nat) (f : Nat → Value) (i : Nat) (v : Value) : (VA n f).setIfInBounds i v = VA n (updV f i v) := by
 apply Array.ext_getElem?
 intro j
 rw [Array.getElem?_setIfInBounds]
 by_cases hj : j < n
 ·
  rw [VA_get n f j hj, VA_get n _ j hj, VA_size]
  by_cases h : i = j
  ·
   subst h; simp [updV, hj]
  ·
   have h' : ¬ j = i := fun e => h e.symm
   simp [h, h', updV]
 ·
  rw [VA_none n f j hj, VA_none n _ j hj, VA_size]
  by_cases h : i = j
  ·
   subst h; simp [hj]
  ·
   simp [h]

structure MS where
 byte : Nat → Nat
 rd : Nat → Bool
 wt : Nat → Bool
def cellM (m : MS) (i : Nat) : Value := if i % 66 < 64 then .int .u8 (m.byte (i / 66 * 64 + i % 66)) else if i % 66 = 64 then .bool (m.rd (i / 66)) else .bool (m.wt (i / 66))
theorem cellM_byte (m : MS) (n j : Nat) (hj : j < 64) : cellM m (n * 66 + j) = .int .u8 (m.byte (n * 64 + j)) := by
 unfold cellM
 rw [if_pos (by omega), show (n * 66 + j) / 66 = n by omega, show (n * 66 + j) % 66 = j by omega]
theorem cellM_rd (m : MS) (n : Nat) : cellM m (n * 66 + 64) = .bool (m.rd n) := by
 unfold cellM
 rw [if_neg (by omega), if_pos (by omega), show (n * 66 + 64) / 66 = n by omega]
theorem cellM_wt (m : MS) (n : Nat) : cellM m (n * 66 + 65) = .bool (m.wt n) := by
 unfold cellM
 rw [if_neg (by omega), if_neg (by omega), show (n * 66 + 65) / 66 = n by omega]
def setRd (m : MS) (n : Nat) (b : Bool) : MS := { m with rd := fun k => if k = n then b else m.rd k }
def setWt (m : MS) (n : Nat) (b : Bool) : MS := { m with wt := fun k => if k = n then b else m.wt k }
theorem upd_rd (m : MS) (n : Nat) (b : Bool) : updV (cellM m) (n * 66 + 64) (.bool b) = cellM (setRd m n b) := by
 funext i
 unfold updV
 by_cases h : i = n * 66 + 64
 ·
  rw [if_pos h, h, cellM_rd]; simp [setRd]
 ·
  rw [if_neg h]
  unfold cellM setRd
  by_cases h1 : i % 66 < 64
  ·
   rw [if_pos h1, if_pos h1]
  ·
   rw [if_neg h1, if_neg h1]
   by_cases h2 : i % 66 = 64
   ·
    rw [if_pos h2, if_pos h2]
    show _ = Value.bool (if i / 66 = n then b else m.rd (i / 66))
    rw [if_neg (by omega)]
   ·
    rw [if_neg h2, if_neg h2]
theorem upd_wt (m : MS) (n : Nat) (b : Bool) : updV (cellM m) (n * 66 + 65) (.bool b) = cellM (setWt m n b) := by
 funext i
 unfold updV
 by_cases h : i = n * 66 + 65
 ·
  rw [if_pos h, h, cellM_wt]; simp [setWt]
 ·
  rw [if_neg h]
  unfold cellM setWt
  by_cases h1 : i % 66 < 64
  ·
   rw [if_pos h1, if_pos h1]
  ·
   rw [if_neg h1, if_neg h1]
   by_cases h2 : i % 66 = 64
   ·
    rw [if_pos h2, if_pos h2]
   ·
    rw [if_neg h2, if_neg h2]
    show _ = Value.bool (if i / 66 = n then b else m.wt (i / 66))
    rw [if_neg (by omega)]
def IsM (g : Nat) (m : MS) (W : World) : Prop := W.heap[g]? = some (.cells (VA 792 (cellM m)) 114 (0, 0))
theorem IsM.on {g : Nat} {m : MS} {W V : World} (h : IsM g m W) (hb : Below W.heap.size W V) : IsM g m V := (hb.block g (Array.getElem?_eq_some_iff.1 h).1).trans h

structure MB where
 W : World
 g : Nat
 m0 : MS
 ok : IsM g m0 W
def PW (B : MB) (m : MS) (k : Nat) : World := (B.W.setRow B.g (VA 792 (cellM m))).drewN k
theorem PW_heap (B : MB) (m : MS) (k : Nat) : (PW B m k).heap[B.g]? = some (.cells (VA 792 (cellM m)) 114 (0, 0)) := setRow_heap _ _ _ _ _ _ B.ok
theorem PW_isM (B : MB) (m : MS) (k : Nat) : IsM B.g m (PW B m k) := PW_heap B m k
theorem PW_cell (B : MB) (m : MS) (k i : Nat) (hi : i < 792) : (PW B m k).cell? ⟨B.g, i, none⟩ = some (cellM m i) := by
 rw [cell_of_row _ _ i _ _ _ (PW_heap B m k), VA_get 792 _ i hi]
theorem PW_fro (B : MB) (m : MS) (k i : Nat) : (PW B m k).frozen? ⟨B.g, i, none⟩ = false := frozen_of_row _ _ i _ _ (PW_heap B m k)
theorem setRow_again (W : World) (g : Nat) (c0 c1 c2 : Array Value) (t : TypeId) (h : W.heap[g]? = some (.cells c0 t (0, 0))) : (W.setRow g c1).setRow g c2 = W.setRow g c2 := by
 unfold World.setRow
 congr 1
 apply Array.ext_getElem?
 intro j
 simp only [Array.getElem?_modify]
 by_cases hj : g = j
 ·
  subst hj
  simp [h]
 ·
  simp [hj]
theorem PW_row (B : MB) (m m' : MS) (k : Nat) : (PW B m k).setRow B.g (VA 792 (cellM m')) = PW B m' k := by
 unfold PW
 exact congrArg (World.drewN · k) (setRow_again B.W B.g _ _ _ _ B.ok)
theorem PW_set (B : MB) (m : MS) (k i : Nat) (v : Value) (m' : MS) (h : updV (cellM m) i v = cellM m') : (PW B m k).setCell ⟨B.g, i, none⟩ v = PW B m' k := by
 rw [setCell_eq_setRow _ _ i _ _ _ _ (PW_heap B m k), VA_set, h, PW_row]
theorem PW_rd (B : MB) (m : MS) (k n : Nat) (hn : n < 12) : (PW B m k).cell? ⟨B.g, n * 66 + 64, none⟩ = some (.bool (m.rd n)) := by rw [PW_cell B m k _ (by omega), cellM_rd]
theorem PW_wt (B : MB) (m : MS) (k n : Nat) (hn : n < 12) : (PW B m k).cell? ⟨B.g, n * 66 + 65, none⟩ = some (.bool (m.wt n)) := by rw [PW_cell B m k _ (by omega), cellM_wt]
theorem PW_by (B : MB) (m : MS) (k n j : Nat) (hn : n < 12) (hj : j < 64) : (PW B m k).cell? ⟨B.g, n * 66 + j, none⟩ = some (.int .u8 (m.byte (n * 64 + j))) := by rw [PW_cell B m k _ (by omega), cellM_byte _ _ _ hj]
theorem PW_setRd (B : MB) (m : MS) (k n : Nat) (b : Bool) : (PW B m k).setCell ⟨B.g, n * 66 + 64, none⟩ (.bool b) = PW B (setRd m n b) k := PW_set B m k _ _ _ (upd_rd m n b)
theorem PW_setWt (B : MB) (m : MS) (k n : Nat) (b : Bool) : (PW B m k).setCell ⟨B.g, n * 66 + 65, none⟩ (.bool b) = PW B (setWt m n b) k := PW_set B m k _ _ _ (upd_wt m n b)
theorem PW_drewN (B : MB) (m : MS) (k n : Nat) : (PW B m k).drewN n = PW B m (k + n) := by unfold PW; rw [World.drewN_drewN]
theorem PW_drew (B : MB) (m : MS) (k : Nat) : (PW B m k).drew = PW B m (k + 1) := PW_drewN B m k 1
theorem PW_of {g : Nat} {m : MS} {W : World} (h : IsM g m W) : W = PW ⟨W, g, m, h⟩ m 0 := by
 show W = (W.setRow g (VA 792 (cellM m))).drewN 0
 rw [show (W.setRow g (VA 792 (cellM m))) = W from setRow_self W g _ _ _ h]
 rfl
end Go.Proofs.YtklibmijiecbfaaGreat.Mm

/- The document's memory: cells by a function; Unmap, Byte, Free, Sealed. -/
namespace Go.Proofs.YtklibmijiecbfaaGreat.Bp
end Go.Proofs.YtklibmijiecbfaaGreat.Bp
namespace Go.Proofs.YtklibmijiecbfaaGreat.Mm
open Go.Proofs.YtklibmijiecbfaaGreat.Bp
open Go.RowKit

structure RS where
 is : Nat → Nat
 by' : Nat → Nat
def cellR (r : RS) (i : Nat) : Value := if i < 12 then .int .i64 (r.is i) else .int .u8 (r.by' (i - 12))
theorem cellR_is (r : RS) (n : Nat) (hn : n < 12) : cellR r n = .int .i64 (r.is n) := by unfold cellR; rw [if_pos hn]
theorem cellR_by (r : RS) (a : Nat) : cellR r (12 + a) = .int .u8 (r.by' a) := by unfold cellR; rw [if_neg (by omega), show 12 + a - 12 = a by omega]
def setIs (r : RS) (n x : Nat) : RS := { r with is := fun k => if k = n then x else r.is k }
def setRB (r : RS) (a x : Nat) : RS := { r with by' := fun k => if k = a then x else r.by' k }
theorem updR_is (r : RS) (n x : Nat) (hn : n < 12) : updV (cellR r) n (.int .i64 x) = cellR (setIs r n x) := by
 funext i
 unfold updV
 by_cases h : i = n
 ·
  rw [if_pos h, h, cellR_is _ n hn]; simp [setIs]
 ·
  rw [if_neg h]
  unfold cellR setIs
  by_cases h1 : i < 12
  ·
   rw [if_pos h1, if_pos h1]
   show _ = Value.int .i64 ((if i = n then x else r.is i : Nat) : Int)
   rw [if_neg h]
  ·
   rw [if_neg h1, if_neg h1]
theorem updR_by (r : RS) (a x : Nat) : updV (cellR r) (12 + a) (.int .u8 x) = cellR (setRB r a x) := by
 funext i
 unfold updV
 by_cases h : i = 12 + a
 ·
  rw [if_pos h, h, cellR_by]; simp [setRB]
 ·
  rw [if_neg h]
  unfold cellR setRB
  by_cases h1 : i < 12
  ·
   rw [if_pos h1, if_pos h1]
  ·
   rw [if_neg h1, if_neg h1]
   show _ = Value.int .u8 ((if i - 12 = a then x else r.by' (i - 12) : Nat) : Int)
   rw [if_neg (by omega)]

def rpeek (r : RS) (a : Nat) : Option Nat := if a < 768 ∧ r.is (a / 64) ≠ 0 then some (r.by' a) else none
def rbyteV : Option Nat → Value
 | none => .tuple #[.int .u8 0, .int .i64 5]
 | some x => .tuple #[.int .u8 x, .int .i64 0]
end Go.Proofs.YtklibmijiecbfaaGreat.Mm

/- The document's memory at an offset: Unmap, Byte. -/
namespace Go.Proofs.YtklibmijiecbfaaGreat.Vr
open Go.RowKit Mm
structure LY where
 g : Nat
 o : Nat
 N : Nat
 ty : TypeId
 f : Nat → Value
 fit : o + 780 ≤ N
def lay (L : LY) (r : RS) : Nat → Value := fun i => if L.o ≤ i ∧ i < L.o + 780 then cellR r (i - L.o) else L.f i
theorem lay_in (L : LY) (r : RS) (i : Nat) (h : i < 780) : lay L r (L.o + i) = cellR r i := by unfold lay; rw [if_pos (by omega), show L.o + i - L.o = i by omega]
theorem lay_out (L : LY) (r : RS) (i : Nat) (h : ¬ (L.o ≤ i ∧ i < L.o + 780)) : lay L r i = L.f i := by unfold lay; rw [if_neg h]
theorem lay_upd (L : LY) (r r' : RS) (i : Nat) (v : Value) (hi : i < 780) (h : updV (cellR r) i v = cellR r') : updV (lay L r) (L.o + i) v = lay L r' := by
 funext j
 have hj0 : cellR r' (j - L.o) = if j - L.o = i then v else cellR r (j - L.o) := by rw [← h]; rfl
 show (if j = L.o + i then v else if L.o ≤ j ∧ j < L.o + 780 then cellR r (j - L.o) else L.f j) = if L.o ≤ j ∧ j < L.o + 780 then cellR r' (j - L.o) else L.f j
 rw [hj0]
 by_cases hj : j = L.o + i
 ·
  rw [if_pos hj, if_pos (by omega), if_pos (by omega)]
 ·
  rw [if_neg hj]
  by_cases hin : L.o ≤ j ∧ j < L.o + 780
  ·
   rw [if_pos hin, if_pos hin, if_neg (by omega)]
  ·
   rw [if_neg hin, if_neg hin]
def IsR (g : LY) (r : RS) (W : World) : Prop := W.heap[g.g]? = some (.cells (VA g.N (lay g r)) g.ty (0, 0))
structure RB where
 W : World
 g : LY
 r0 : RS
 ok : IsR g r0 W
def RW (B : RB) (r : RS) (k : Nat) : World := (B.W.setRow B.g.g (VA B.g.N (lay B.g r))).drewN k
theorem RW_heap (B : RB) (r : RS) (k : Nat) : (RW B r k).heap[B.g.g]? = some (.cells (VA B.g.N (lay B.g r)) B.g.ty (0, 0)) := setRow_heap _ _ _ _ _ _ B.ok
theorem RW_isR (B : RB) (r : RS) (k : Nat) : IsR B.g r (RW B r k) := RW_heap B r k
theorem RW_cell (B : RB) (r : RS) (k i : Nat) (hi : i < 780) : (RW B r k).cell? ⟨B.g.g, B.g.o + i, none⟩ = some (cellR r i) := by
 have := B.g.fit
 rw [cell_of_row _ _ _ _ _ _ (RW_heap B r k), VA_get _ _ _ (by omega), lay_in _ _ _ hi]
theorem RW_fro (B : RB) (r : RS) (k i : Nat) : (RW B r k).frozen? ⟨B.g.g, i, none⟩ = false := frozen_of_row _ _ i _ _ (RW_heap B r k)
theorem RW_row (B : RB) (r r' : RS) (k : Nat) : (RW B r k).setRow B.g.g (VA B.g.N (lay B.g r')) = RW B r' k := by
 unfold RW
 exact congrArg (World.drewN · k) (setRow_again B.W B.g.g _ _ _ _ B.ok)
theorem RW_set (B : RB) (r : RS) (k i : Nat) (v : Value) (r' : RS) (hi : i < 780) (h : updV (cellR r) i v = cellR r') : (RW B r k).setCell ⟨B.g.g, B.g.o + i, none⟩ v = RW B r' k := by
 rw [setCell_eq_setRow _ _ _ _ _ _ _ (RW_heap B r k), VA_set, lay_upd B.g r r' i v hi h, RW_row]
theorem RW_is (B : RB) (r : RS) (k n : Nat) (hn : n < 12) : (RW B r k).cell? ⟨B.g.g, B.g.o + n, none⟩ = some (.int .i64 (r.is n)) := by rw [RW_cell B r k _ (by omega), cellR_is _ _ hn]
theorem RW_by (B : RB) (r : RS) (k n j : Nat) (hn : n < 12) (hj : j < 64) : (RW B r k).cell? ⟨B.g.g, B.g.o + 12 + n * 64 + j, none⟩ = some (.int .u8 (r.by' (n * 64 + j))) := by rw [show B.g.o + 12 + n * 64 + j = B.g.o + (12 + (n * 64 + j)) by omega, RW_cell B r k _ (by omega), cellR_by]
theorem RW_setIs (B : RB) (r : RS) (k n x : Nat) (hn : n < 12) : (RW B r k).setCell ⟨B.g.g, B.g.o + n, none⟩ (.int .i64 x) = RW B (setIs r n x) k := RW_set B r k _ _ _ (by omega) (updR_is r n x hn)
theorem RW_setBy (B : RB) (r : RS) (k n j x : Nat) (hn : n < 12) (hj : j < 64) : (RW B r k).setCell ⟨B.g.g, B.g.o + 12 + n * 64 + j, none⟩ (.int .u8 x) = RW B (setRB r (n * 64 + j) x) k := by
 rw [show B.g.o + 12 + n * 64 + j = B.g.o + (12 + (n * 64 + j)) by omega]
 exact RW_set B r k _ _ _ (by omega) (updR_by r _ x)
theorem RW_drewN (B : RB) (r : RS) (k n : Nat) : (RW B r k).drewN n = RW B r (k + n) := by unfold RW; rw [World.drewN_drewN]
theorem RW_drew (B : RB) (r : RS) (k : Nat) : (RW B r k).drew = RW B r (k + 1) := RW_drewN B r k 1
theorem RW_of {g : LY} {r : RS} {W : World} (h : IsR g r W) : W = RW ⟨W, g, r, h⟩ r 0 := by
 show W = (W.setRow g.g (VA g.N (lay g r))).drewN 0
 rw [show (W.setRow g.g (VA g.N (lay g r))) = W from setRow_self W g.g _ _ _ h]
 rfl
theorem RW_grown (B : RB) (r : RS) (k : Nat) : B.W.grownBy (RW B r k) (some B.g.g) :=
 ⟨rfl, rfl, rfl, by show B.W.heap.size ≤ (B.W.heap.modify _ _).size; rw [Array.size_modify]; exact Nat.le_refl _, fun j _ hne => by
  show (B.W.heap.modify _ _)[j]? = _
  rw [Array.getElem?_modify, if_neg (fun e => hne (by rw [e]))]⟩

attribute [local go_sem] RW_drew RW_drewN RW_fro
theorem runmap_bad (B : RB) (r : RS) (k : Nat) (n : Int) (hn : ¬ (0 ≤ n ∧ n ≤ 7)) :
  Calls Tryz.prog 34 #[.pointer (some ⟨B.g.g, B.g.o, none⟩), .int .i64 n] (RW B r k) fun e w' => e = .returned (.int .i64 5) ∧ w' = RW B r k := by
 by_cases h0 : n < 0
 ·
  go_enter Tryz.func34, Tryz.ntmps34
  go_wp2
  go_ret
  exact ⟨rfl, rfl⟩
 ·
  have h7 : 7 < n := by omega
  go_enter Tryz.func34, Tryz.ntmps34
  go_wp2
  go_ret
  exact ⟨rfl, rfl⟩
theorem runmap_no (B : RB) (r : RS) (k n : Nat) (hn : n < 8) (h0 : r.is n = 0) :
  Calls Tryz.prog 34 #[.pointer (some ⟨B.g.g, B.g.o, none⟩), .int .i64 n] (RW B r k) fun e w' => e = .returned (.int .i64 5) ∧ w' = RW B r k := by
 have c1 := RW_is B r k n (by omega)
 rw [h0] at c1
 go_enter Tryz.func34, Tryz.ntmps34
 go_wp2
 go_ret
 exact ⟨rfl, rfl⟩
theorem runmap_ok (B : RB) (r : RS) (k n : Nat) (hn : n < 8) (h0 : r.is n ≠ 0) :
  Calls Tryz.prog 34 #[.pointer (some ⟨B.g.g, B.g.o, none⟩), .int .i64 n] (RW B r k) fun e w' => e = .returned (.int .i64 0) ∧ w' = RW B (setIs r n 0) k := by
 have c1 := RW_is B r k n (by omega)
 have c2 := RW_setIs B r k n 0 (by omega)
 have d : ((r.is n : Int) == 0) = false := by rw [beq_eq_false_iff_ne]; omega
 go_enter Tryz.func34, Tryz.ntmps34
 go_wp2
 go_ret
 exact ⟨rfl, c2⟩

theorem rbyte_any (B : RB) (r : RS) (k a : Nat) (ha : a < 18446744073709551616) :
  Calls Tryz.prog 74 #[.pointer (some ⟨B.g.g, B.g.o, none⟩), .int .u64 a] (RW B r k) fun e w' => e = .returned (rbyteV (rpeek r a)) ∧ w' = RW B r k := by
 unfold rpeek
 by_cases h : a < 768
 ·
  have c1 := RW_is B r k (a / 64) (by omega)
  by_cases h0 : r.is (a / 64) = 0
  ·
   rw [if_neg (fun e => e.2 h0)]
   rw [h0] at c1
   go_enter Tryz.func74, Tryz.ntmps74
   go_wp2
   go_ret2
   exact ⟨rfl, rfl⟩
  ·
   rw [if_pos ⟨h, h0⟩]
   have d : ((r.is (a / 64) : Int) == 0) = false := by rw [beq_eq_false_iff_ne]; omega
   have c2 := RW_by B r k (a / 64) (a % 64) (by omega) (by omega)
   rw [show a / 64 * 64 + a % 64 = a by omega] at c2
   go_enter Tryz.func74, Tryz.ntmps74
   go_wp2
   go_ret2
   exact ⟨rfl, rfl⟩
 ·
  rw [if_neg (fun e => h e.1)]
  obtain ⟨q, hq⟩ : ∃ q : Int, q = (a : Int) / 64 := ⟨_, rfl⟩
  have hw : IntKind.u64.wrap ((a : Int) / 64) = q := by rw [IntKind.wrap_u64, hq]; omega
  have h12 : (11 : Int) < q := by omega
  clear ha hq h
  go_enter Tryz.func74, Tryz.ntmps74
  go_wp2
  go_ret2
  exact ⟨rfl, rfl⟩
end Go.Proofs.YtklibmijiecbfaaGreat.Vr

/- New memory; small functions of package mem. -/
namespace Go.Proofs.YtklibmijiecbfaaGreat.Bp
end Go.Proofs.YtklibmijiecbfaaGreat.Bp
namespace Go.Proofs.YtklibmijiecbfaaGreat.Mm
open Go.Proofs.YtklibmijiecbfaaGreat.Bp
open Go.RowKit

theorem isThreads_any (n : Int) (w : World) : Calls Tryz.prog 48 #[.int .i64 n] w fun e w' => e = .returned (.bool (decide (0 ≤ n) && decide (n < 8))) ∧ w' = w := by
 go_enter Tryz.func48, Tryz.ntmps48
 go_wp2
 all_goals
  go_ret
  exact ⟨ret_bool (by rw [Bool.eq_iff_iff]; simp; try omega), rfl⟩

theorem start_any (n : Nat) (hn : n ≤ 12) (w : World) : Calls Tryz.prog 115 #[.int .i64 n] w fun e w' => e = .returned (.int .u64 (n * 64 : Nat)) ∧ w' = w := by
 go_enter Tryz.func115, Tryz.ntmps115
 go_wp2
 go_ret
 refine ⟨ret_int ?_, rfl⟩
 omega

def zeroM : MS := ⟨fun _ => 0, fun _ => false, fun _ => false⟩

set_option maxRecDepth 100000 in
theorem zero_cells : Tryz.zeroCells114 = VA 792 (cellM zeroM) := by
 rw [VA_eq]
 kernel_rfl

theorem new_any (w : World) : Calls Tryz.prog 21 #[] w fun e w' => e = .returned (.pointer (some ⟨w.heap.size, 0, none⟩)) ∧ Below w.heap.size w w' ∧ IsM w.heap.size zeroM w' := by
 go_enter Tryz.func21, Tryz.ntmps21
 go_wp2_with fail
 go_ret
 exact ⟨rfl, (Below.refl _ _).alloc (Nat.le_refl _) _, by rw [zero_cells]; exact heap_alloc_new _ _⟩
end Go.Proofs.YtklibmijiecbfaaGreat.Mm

/- Map, find, Byte. -/
namespace Go.Proofs.YtklibmijiecbfaaGreat.Bp
end Go.Proofs.YtklibmijiecbfaaGreat.Bp
namespace Go.Proofs.YtklibmijiecbfaaGreat.Mm
open Go.Proofs.YtklibmijiecbfaaGreat.Bp
open Go.RowKit
attribute [local go_sem] PW_drew PW_drewN PW_fro PW_setRd PW_setWt

theorem map_bad (B : MB) (m : MS) (k : Nat) (n : Int) (hn : ¬ (0 ≤ n ∧ n < 8)) (b : Bool) :
  Calls Tryz.prog 25 #[.pointer (some ⟨B.g, 0, none⟩), .int .i64 n, .bool b] (PW B m k) fun e w' => e = .returned (.iface 82 (.int .i64 5)) ∧ w' = PW B m k := by
 have hd : (decide (0 ≤ n) && decide (n < 8)) = false := by rw [Bool.and_eq_false_iff]; simp; omega
 go_enter Tryz.func25, Tryz.ntmps25
 go_wp2_with (go_at_call 48; refine (isThreads_any _ _).mono ?_; rw [hd]; rintro e w' ⟨rfl, rfl⟩)
 go_ret
 exact ⟨rfl, rfl⟩

theorem map_ok (B : MB) (m : MS) (k n : Nat) (hn : n < 8) (b : Bool) :
  Calls Tryz.prog 25 #[.pointer (some ⟨B.g, 0, none⟩), .int .i64 n, .bool b] (PW B m k) fun e w' => e = .returned .nilIface ∧ ∃ k', w' = PW B (setWt (setRd m n true) n b) k' := by
 have hd : (decide (0 ≤ (n : Int)) && decide ((n : Int) < 8)) = true := by simp; omega
 have c1 := fun m k => PW_rd B m k n (by omega)
 have c2 := fun m k => PW_wt B m k n (by omega)
 go_enter Tryz.func25, Tryz.ntmps25
 go_wp2_with (go_at_call 48; refine (isThreads_any _ _).mono ?_; rw [hd]; rintro e w' ⟨rfl, hw⟩; rw [hw]; clear hw w')
 go_region
 go_wp2
 go_ret
 exact ⟨rfl, _, rfl⟩

theorem find_ok (g : Nat) (a : Nat) (ha : a < 768) (w : World) :
  Calls Tryz.prog 81 #[.pointer (some ⟨g, 0, none⟩), .int .u64 a] w fun e w' => e = .returned (.tuple #[.pointer (some ⟨g, a / 64 * 66, none⟩), .int .i64 (a % 64 : Nat)]) ∧ w' = w := by
 go_enter Tryz.func81, Tryz.ntmps81
 go_wp2
 go_ret2
 exact ⟨rfl, rfl⟩
theorem find_no (g : Nat) (a : Nat) (ha : 768 ≤ a) (hb : a < 18446744073709551616) (w : World) :
  Calls Tryz.prog 81 #[.pointer (some ⟨g, 0, none⟩), .int .u64 a] w fun e w' => e = .returned (.tuple #[.pointer none, .int .i64 0]) ∧ w' = w := by
 obtain ⟨q, hq⟩ : ∃ q : Int, q = (a : Int) / 64 := ⟨_, rfl⟩
 have hw : IntKind.u64.wrap ((a : Int) / 64) = q := by rw [IntKind.wrap_u64, hq]; omega
 have h12 : (12 : Int) ≤ q := by omega
 clear hb hq
 go_enter Tryz.func81, Tryz.ntmps81
 go_wp2
 go_ret2
 exact ⟨rfl, rfl⟩

theorem byte_ok (B : MB) (m : MS) (k a : Nat) (ha : a < 768) (hr : m.rd (a / 64) = true) :
  Calls Tryz.prog 53 #[.pointer (some ⟨B.g, 0, none⟩), .int .u64 a] (PW B m k) fun e w' => e = .returned (.tuple #[.int .u8 (m.byte a), .nilIface]) ∧ w' = PW B m k := by
 have c1 := fun k => PW_rd B m k (a / 64) (by omega)
 rw [hr] at c1
 have c2 := fun k => PW_by B m k (a / 64) (a % 64) (by omega) (by omega)
 rw [show a / 64 * 64 + a % 64 = a by omega] at c2
 go_enter Tryz.func53, Tryz.ntmps53
 go_wp2_with (go_at_call 81; refine (find_ok _ a ha _).mono ?_; rintro e w' ⟨rfl, hw⟩; rw [hw]; clear hw w')
 go_ret2
 exact ⟨rfl, rfl⟩

theorem byte_out (B : MB) (m : MS) (k a : Nat) (ha : 768 ≤ a) (hb : a < 18446744073709551616) :
  Calls Tryz.prog 53 #[.pointer (some ⟨B.g, 0, none⟩), .int .u64 a] (PW B m k) fun e w' => e = .returned (.tuple #[.int .u8 0, .iface 82 (.int .i64 5)]) ∧ w' = PW B m k := by
 have HF := fun w => find_no B.g a ha hb w
 clear hb ha
 go_enter Tryz.func53, Tryz.ntmps53
 go_wp2_with (go_at_call 81; refine (HF _).mono ?_; rintro e w' ⟨rfl, hw⟩; rw [hw]; clear hw w')
 go_ret2
 exact ⟨rfl, rfl⟩

theorem byte_no (B : MB) (m : MS) (k a : Nat) (ha : a < 768) (hr : m.rd (a / 64) = false) :
  Calls Tryz.prog 53 #[.pointer (some ⟨B.g, 0, none⟩), .int .u64 a] (PW B m k) fun e w' => e = .returned (.tuple #[.int .u8 0, .iface 82 (.int .i64 5)]) ∧ w' = PW B m k := by
 have c1 := fun k => PW_rd B m k (a / 64) (by omega)
 rw [hr] at c1
 go_enter Tryz.func53, Tryz.ntmps53
 go_wp2_with (go_at_call 81; refine (find_ok _ a ha _).mono ?_; rintro e w' ⟨rfl, hw⟩; rw [hw]; clear hw w')
 go_ret2
 exact ⟨rfl, rfl⟩
end Go.Proofs.YtklibmijiecbfaaGreat.Mm

/- Bytes laid into a page, a page cleared: the builtins copy and clear on memory. -/
namespace Go.Proofs.YtklibmijiecbfaaGreat.Bp
end Go.Proofs.YtklibmijiecbfaaGreat.Bp
namespace Go.Proofs.YtklibmijiecbfaaGreat.Mm
open Go.Proofs.YtklibmijiecbfaaGreat.Bp
open Go.RowKit

def writeBy (m : MS) (a : Nat) (l : List UInt8) : MS := { m with byte := fun x => if a ≤ x ∧ x < a + l.length then (l.getD (x - a) 0).toNat else m.byte x }

theorem row_write (m : MS) (n j : Nat) (l : List UInt8) (hn : n < 12) (hl : j + l.length ≤ 64) :
  ((VA 792 (cellM m)).toList.take (n * 66 + j) ++ Lib.byteCells l ++ (VA 792 (cellM m)).toList.drop (n * 66 + j + l.length)).toArray = VA 792 (cellM (writeBy m (n * 64 + j) l)) := by
 have hlen : (VA 792 (cellM m)).toList.length = 792 := by rw [Array.length_toList, VA_size]
 have hbl : (Lib.byteCells l).length = l.length := by simp [Lib.byteCells]
 apply Array.ext_getElem?
 intro i
 rw [List.getElem?_toArray]
 by_cases hi : i < 792
 ·
  rw [VA_get 792 _ i hi]
  have hv : (VA 792 (cellM m)).toList[i]? = some (cellM m i) := by rw [Array.getElem?_toList, VA_get 792 _ i hi]
  by_cases h1 : i < n * 66 + j
  ·
   rw [List.append_assoc, List.getElem?_append_left (by rw [List.length_take, hlen]; omega), List.getElem?_take, if_pos h1, hv]
   congr 1
   unfold cellM writeBy
   by_cases h6 : i % 66 < 64
   ·
    rw [if_pos h6, if_pos h6]
    show _ = Value.int .u8 ((if n * 64 + j ≤ i / 66 * 64 + i % 66 ∧ i / 66 * 64 + i % 66 < n * 64 + j + l.length then _ else m.byte (i / 66 * 64 + i % 66) : Nat) : Int)
    rw [if_neg (by omega)]
   ·
    rw [if_neg h6, if_neg h6]
  ·
   by_cases h2 : i < n * 66 + j + l.length
   ·
    have ht : ((VA 792 (cellM m)).toList.take (n * 66 + j)).length = n * 66 + j := by rw [List.length_take, hlen]; omega
    rw [List.append_assoc, List.getElem?_append_right (by rw [ht]; omega), ht, List.getElem?_append_left (by rw [hbl]; omega)]
    have hil : i - (n * 66 + j) < l.length := by omega
    have e1 : (Lib.byteCells l)[i - (n * 66 + j)]? = some (.int .u8 (l[i - (n * 66 + j)].toNat : Int)) := by
     unfold Lib.byteCells
     rw [List.getElem?_map, List.getElem?_eq_getElem hil]
     rfl
    rw [e1]
    congr 1
    unfold cellM writeBy
    rw [if_pos (by omega)]
    show _ = Value.int .u8 ((if n * 64 + j ≤ i / 66 * 64 + i % 66 ∧ i / 66 * 64 + i % 66 < n * 64 + j + l.length then (l.getD (i / 66 * 64 + i % 66 - (n * 64 + j)) 0).toNat else m.byte (i / 66 * 64 + i % 66) : Nat) : Int)
    rw [if_pos (by omega), show i / 66 * 64 + i % 66 - (n * 64 + j) = i - (n * 66 + j) by omega, List.getD_eq_getElem?_getD, List.getElem?_eq_getElem hil]
    rfl
   ·
    have ht : ((VA 792 (cellM m)).toList.take (n * 66 + j) ++ Lib.byteCells l).length = n * 66 + j + l.length := by rw [List.length_append, List.length_take, hlen, hbl]; omega
    rw [List.getElem?_append_right (by rw [ht]; omega), ht, List.getElem?_drop, show n * 66 + j + l.length + (i - (n * 66 + j + l.length)) = i by omega, hv]
    congr 1
    unfold cellM writeBy
    by_cases h6 : i % 66 < 64
    ·
     rw [if_pos h6, if_pos h6]
     show _ = Value.int .u8 ((if n * 64 + j ≤ i / 66 * 64 + i % 66 ∧ i / 66 * 64 + i % 66 < n * 64 + j + l.length then _ else m.byte (i / 66 * 64 + i % 66) : Nat) : Int)
     rw [if_neg (by omega)]
    ·
     rw [if_neg h6, if_neg h6]
 ·
  rw [VA_none 792 _ i hi, List.getElem?_eq_none]
  rw [List.length_append, List.length_append, List.length_take, List.length_drop, hlen, hbl]
  omega

theorem PW_store (B : MB) (m : MS) (k n j : Nat) (l : List UInt8) (hn : n < 12) (hl : j + l.length ≤ 64) :
  (storeCells ⟨B.g, n * 66 + j, none⟩ (Lib.byteCells l)).run Tryz.prog (PW B m k) = .ok () (PW B (writeBy m (n * 64 + j) l) k) := by
 have h := run_storeCells_at Tryz.prog B.g (n * 66 + j) 114 (Lib.byteCells l) 0 (VA 792 (cellM m)) (PW B m k) (PW_heap B m k) (by rw [VA_size]; simp [Lib.byteCells]; omega) (Lib.byteCells_one _)
 rw [Nat.add_zero, show (Lib.byteCells l).length = l.length by simp [Lib.byteCells], row_write m n j l hn hl] at h
 rw [h, PW_row]

theorem run_copy_page (B : MB) (m : MS) (k n j cap ty : Nat) (s : ByteArray) (hn : n < 12) (hj : j ≤ 64) :
  (Builtin.copy_ #[132, 9] ty #[.slice (some ⟨B.g, n * 66 + j, none⟩) (64 - j) cap, .string s]).run Tryz.prog (PW B m k) =
   .ok (goInt (Nat.min s.size (64 - j))) (PW B (writeBy m (n * 64 + j) (s.data.toList.take (Nat.min s.size (64 - j)))) k) := by
 have hs : (Tryz.prog.info? 5).map (·.size) = some 1 := by kernel_rfl
 have hst := PW_store B m k n j (s.data.toList.take (Nat.min s.size (64 - j))) hn (by have h1 := List.length_take_le (Nat.min s.size (64 - j)) s.data.toList; have h2 : Nat.min s.size (64 - j) ≤ 64 - j := Nat.min_le_right _ _; omega)
 have htk : List.take (Nat.min s.size (64 - j)) (List.map (fun b : UInt8 => Value.int IntKind.u8 (b.toNat : Int)) s.data.toList) = Lib.byteCells (s.data.toList.take (Nat.min s.size (64 - j))) := by
  unfold Lib.byteCells
  rw [List.map_take]
 cases hq : Tryz.prog.info? 5 with
 | none => simp [hq] at hs
 | some i =>
  simp [Builtin.copy_, run_underlying Tryz.underlying132, Builtin.lenOf, Builtin.firstCells, sizeOf, typeInfo, hq]
  rw [htk, hst]
  simp [Result.andThen]

def Z64 : List UInt8 := List.replicate 64 0
theorem Z64_len : Z64.length = 64 := by unfold Z64; rw [List.length_replicate]

theorem run_clear_page (B : MB) (m : MS) (k n cap ty : Nat) (hn : n < 12) :
  (Builtin.clear_ #[132] ty #[.slice (some ⟨B.g, n * 66, none⟩) 64 cap]).run Tryz.prog (PW B m k) = .ok (.tuple #[]) (PW B (writeBy m (n * 64) Z64) k) := by
 have hst := PW_store B m k n 0 Z64 hn (by rw [Z64_len]; omega)
 rw [Nat.add_zero, Nat.add_zero] at hst
 have hz : (Builtin.zeroCells (Value.int IntKind.u8 0).cells 64).toList = Lib.byteCells Z64 := by kernel_rfl
 have hv : ∀ w, (zeroValue 5).run Tryz.prog w = .ok (.int .u8 0) w := Tryz.zeroValue5
 simp [Builtin.clear_, run_underlying Tryz.underlying132, hv, hz, hst, Result.andThen]

theorem wpList_copy_page {ops : Array Oper} {rest : List Oper} {o : Oper} {a : Act} {Q : Exit → Act → World → Prop} (hgd : o.guard = none) (d x : Operand)
  (ho : o.op = .call { callee := .builtin .copy, args := #[d, x], argTypes := #[132, 9] }) (B : MB) (m : MS) (k n j cap : Nat) (s : ByteArray) (hn : n < 12) (hj : j ≤ 64)
  (hd : a.eval d = .slice (some ⟨B.g, n * 66 + j, none⟩) (64 - j) cap) (hs : a.eval x = .string s)
  (h : wpList Tryz.prog ops Q rest (a.put o.dst (goInt (Nat.min s.size (64 - j)))) (PW B (writeBy m (n * 64 + j) (s.data.toList.take (Nat.min s.size (64 - j)))) k)) : wpList Tryz.prog ops Q (o :: rest) a (PW B m k) := by
 refine wpList_plain hgd fun K hK => ?_
 have hrun := run_copy_page B m k n j cap o.type s hn hj
 unfold Oper.wp
 simp [execOp, ho, resolve, invoke, builtin, hd, hs, hrun, Result.andThen]
 exact hK _ _ h

theorem wpList_clear_page {ops : Array Oper} {rest : List Oper} {o : Oper} {a : Act} {Q : Exit → Act → World → Prop} (hgd : o.guard = none) (d : Operand)
  (ho : o.op = .call { callee := .builtin .clear, args := #[d], argTypes := #[132] }) (B : MB) (m : MS) (k n cap : Nat) (hn : n < 12)
  (hd : a.eval d = .slice (some ⟨B.g, n * 66, none⟩) 64 cap)
  (h : wpList Tryz.prog ops Q rest (a.put o.dst (.tuple #[])) (PW B (writeBy m (n * 64) Z64) k)) : wpList Tryz.prog ops Q (o :: rest) a (PW B m k) := by
 refine wpList_plain hgd fun K hK => ?_
 have hrun := run_clear_page B m k n cap o.type hn
 unfold Oper.wp
 simp [execOp, ho, resolve, invoke, builtin, hd, hrun, Result.andThen]
 exact hK _ _ h
end Go.Proofs.YtklibmijiecbfaaGreat.Mm

/- drop, Unmap. -/
namespace Go.Proofs.YtklibmijiecbfaaGreat.Bp
end Go.Proofs.YtklibmijiecbfaaGreat.Bp
namespace Go.Proofs.YtklibmijiecbfaaGreat.Mm
open Go.Proofs.YtklibmijiecbfaaGreat.Bp
open Go.RowKit
attribute [local go_sem] PW_drew PW_drewN PW_fro PW_setRd PW_setWt

def dropM (m : MS) (n : Nat) : MS := writeBy (setWt (setRd m n false) n false) (n * 64) Z64

theorem drop_any (B : MB) (m : MS) (k n : Nat) (hn : n < 12) :
  Calls Tryz.prog 92 #[.pointer (some ⟨B.g, n * 66, none⟩)] (PW B m k) fun e w' => e = .returned (.tuple #[]) ∧ w' = PW B (dropM m n) k := by
 have c1 := fun m k => PW_rd B m k n hn
 have c2 := fun m k => PW_wt B m k n hn
 go_enter Tryz.func92, Tryz.ntmps92
 go_wp2_with (refine wpList_clear_page rfl _ rfl B _ _ n _ hn rfl ?_)
 go_end0
 exact ⟨rfl, rfl⟩

theorem unmap_bad (B : MB) (m : MS) (k : Nat) (n : Int) (hn : ¬ (0 ≤ n ∧ n < 8)) :
  Calls Tryz.prog 63 #[.pointer (some ⟨B.g, 0, none⟩), .int .i64 n] (PW B m k) fun e w' => e = .returned (.iface 82 (.int .i64 5)) ∧ ∃ k', w' = PW B m k' := by
 have hd : (decide (0 ≤ n) && decide (n < 8)) = false := by rw [Bool.and_eq_false_iff]; simp; omega
 go_enter Tryz.func63, Tryz.ntmps63
 go_wp2_with (go_at_call 48; refine (isThreads_any _ _).mono ?_; rw [hd]; rintro e w' ⟨rfl, rfl⟩)
 go_ret
 exact ⟨rfl, _, rfl⟩

theorem unmap_ok (B : MB) (m : MS) (k n : Nat) (hn : n < 8) (hr : m.rd n = true) :
  Calls Tryz.prog 63 #[.pointer (some ⟨B.g, 0, none⟩), .int .i64 n] (PW B m k) fun e w' => e = .returned .nilIface ∧ ∃ k', w' = PW B (dropM m n) k' := by
 have hd : (decide (0 ≤ (n : Int)) && decide ((n : Int) < 8)) = true := by simp; omega
 have c1 := fun k => PW_rd B m k n (by omega)
 rw [hr] at c1
 go_enter Tryz.func63, Tryz.ntmps63
 go_wp2_with (first
  | (go_at_call 48; refine (isThreads_any _ _).mono ?_; rw [hd]; rintro e w' ⟨rfl, hw⟩; rw [hw]; clear hw w')
  | (go_at_call 92; refine (drop_any B m _ n (by omega)).mono ?_; rintro e w' ⟨rfl, rfl⟩))
 go_ret
 exact ⟨rfl, _, rfl⟩

theorem unmap_no (B : MB) (m : MS) (k n : Nat) (hn : n < 8) (hr : m.rd n = false) :
  Calls Tryz.prog 63 #[.pointer (some ⟨B.g, 0, none⟩), .int .i64 n] (PW B m k) fun e w' => e = .returned (.iface 82 (.int .i64 5)) ∧ ∃ k', w' = PW B m k' := by
 have hd : (decide (0 ≤ (n : Int)) && decide ((n : Int) < 8)) = true := by simp; omega
 have c1 := fun k => PW_rd B m k n (by omega)
 rw [hr] at c1
 go_enter Tryz.func63, Tryz.ntmps63
 go_wp2_with (go_at_call 48; refine (isThreads_any _ _).mono ?_; rw [hd]; rintro e w' ⟨rfl, hw⟩; rw [hw]; clear hw w')
 go_ret
 exact ⟨rfl, _, rfl⟩

def cntM (m : MS) : Nat → Nat
 | 0 => 0
 | j + 1 => cntM m j + if m.rd (8 + j) = true then 1 else 0
theorem cntM_le (m : MS) : ∀ j, cntM m j ≤ j
 | 0 => Nat.le_refl _
 | j + 1 => by have := cntM_le m j; rw [cntM]; split <;> omega

theorem sealed_any (B : MB) (m : MS) (k : Nat) : Calls Tryz.prog 72 #[.pointer (some ⟨B.g, 0, none⟩)] (PW B m k) fun e w' => e = .returned (.int .i64 (cntM m 4)) ∧ ∃ k', w' = PW B m k' := by
 go_enter Tryz.func72, Tryz.ntmps72
 go_wp2
 go_loopw [3, 4] (fun K N w' => ∃ n : Nat, 8 ≤ n ∧ n ≤ 12 ∧ K = .int .i64 (cntM m (n - 8)) ∧ N = .int .i64 n ∧ w' = PW B m k) (fun _ N _ => 12 - (intOf N).toNat)
 case atStart => exact ⟨8, by omega, by omega, rfl, rfl, rfl⟩
 case round =>
  obtain ⟨n, h8, h12, rfl, rfl, rfl⟩ := hrel
  have hc := cntM_le m (n - 8)
  by_cases hlt : n < 12
  ·
   have c1 := PW_rd B m k n hlt
   have HC := hide (show cntM m (n + 1 - 8) = cntM m (n - 8) + if m.rd n = true then 1 else 0 by rw [show n + 1 - 8 = (n - 8) + 1 by omega, cntM, show 8 + (n - 8) = n by omega])
   cases hr : m.rd n with
   | false =>
    rw [hr] at c1 HC
    clear hr
    go_wp2
    go_round
    case rel => exact ⟨n + 1, by omega, by omega, by rw [HC.out]; rfl, by go_num, trivial⟩
    case measure => simp [intOf]; omega
   | true =>
    rw [hr] at c1 HC
    clear hr
    go_wp2
    go_round
    case rel => exact ⟨n + 1, by omega, by omega, by rw [HC.out]; rfl, by go_num, trivial⟩
    case measure => simp [intOf]; omega
  ·
   obtain rfl : n = 12 := by omega
   go_wp2
   go_ret
   exact ⟨rfl, k, rfl⟩

theorem free_none (B : MB) (m : MS) (k : Nat) (a : Int) (hno : ∀ n, 8 ≤ n → n < 12 → m.rd n = true → (a ≠ (n * 64 : Nat))) :
  Calls Tryz.prog 91 #[.pointer (some ⟨B.g, 0, none⟩), .int .u64 a] (PW B m k) fun e w' => e = .returned (.iface 82 (.int .i64 8)) ∧ ∃ k', w' = PW B m k' := by
 have HNO := hide hno
 clear hno
 go_enter Tryz.func91, Tryz.ntmps91
 go_wp2
 go_loopw [5] (fun N w' => ∃ n : Nat, 8 ≤ n ∧ n ≤ 12 ∧ N = .int .i64 n ∧ w' = PW B m k) (fun N _ => 12 - (intOf N).toNat)
 case atStart => exact ⟨8, by omega, by omega, rfl, rfl⟩
 case round =>
  obtain ⟨n, h8, h12, rfl, rfl⟩ := hrel
  by_cases hlt : n < 12
  ·
   have c1 := PW_rd B m k n hlt
   cases hr : m.rd n with
   | false =>
    rw [hr] at c1
    clear hr
    go_wp2
    go_round
    case rel => exact ⟨n + 1, by omega, by omega, by go_num, trivial⟩
    case measure => simp [intOf]; omega
   | true =>
    have hne : (((n * 64 : Nat) : Int) == a) = false := by
     have := HNO.out n h8 hlt hr
     rw [beq_eq_false_iff_ne]
     exact fun e => this e.symm
    rw [hr] at c1
    clear hr
    go_wp2_with (go_at_call 115; refine (start_any n (by omega) _).mono ?_; rintro e w' ⟨rfl, hw⟩; rw [hw]; clear hw w')
    go_round
    case rel => exact ⟨n + 1, by omega, by omega, by go_num, trivial⟩
    case measure => simp [intOf]; omega
  ·
   obtain rfl : n = 12 := by omega
   go_wp2
   go_ret
   exact ⟨rfl, k, rfl⟩

theorem free_ok (B : MB) (m : MS) (k q : Nat) (hq8 : 8 ≤ q) (hq : q < 12) (hrq : m.rd q = true) :
  Calls Tryz.prog 91 #[.pointer (some ⟨B.g, 0, none⟩), .int .u64 ((q * 64 : Nat) : Int)] (PW B m k) fun e w' => e = .returned .nilIface ∧ ∃ k', w' = PW B (dropM m q) k' := by
 obtain ⟨a, ha⟩ : ∃ a : Int, a = ((q * 64 : Nat) : Int) := ⟨_, rfl⟩
 rw [← ha]
 have HA := hide ha
 clear ha
 go_enter Tryz.func91, Tryz.ntmps91
 go_wp2
 go_loopw [5] (fun N w' => ∃ n : Nat, 8 ≤ n ∧ n ≤ q ∧ N = .int .i64 n ∧ w' = PW B m k) (fun N _ => 12 - (intOf N).toNat)
 case atStart => exact ⟨8, by omega, by omega, rfl, rfl⟩
 case round =>
  obtain ⟨n, h8, h12, rfl, rfl⟩ := hrel
  have c1 := PW_rd B m k n (by omega)
  by_cases hlt : n < q
  ·
   cases hr : m.rd n with
   | false =>
    rw [hr] at c1
    clear hr
    go_wp2
    go_round
    case rel => exact ⟨n + 1, by omega, by omega, by go_num, trivial⟩
    case measure => simp [intOf]; omega
   | true =>
    have hne : (((n * 64 : Nat) : Int) == a) = false := by
     rw [beq_eq_false_iff_ne, HA.out]
     omega
    rw [hr] at c1
    clear hr
    go_wp2_with (go_at_call 115; refine (start_any n (by omega) _).mono ?_; rintro e w' ⟨rfl, hw⟩; rw [hw]; clear hw w')
    go_round
    case rel => exact ⟨n + 1, by omega, by omega, by go_num, trivial⟩
    case measure => simp [intOf]; omega
  ·
   obtain rfl : n = q := by omega
   have heq : (((n * 64 : Nat) : Int) == a) = true := by rw [beq_iff_eq, HA.out]
   rw [hrq] at c1
   go_wp2_with (first
    | (go_at_call 115; refine (start_any n (by omega) _).mono ?_; rintro e w' ⟨rfl, hw⟩; rw [hw]; clear hw w')
    | (go_at_call 92; refine (drop_any B m _ n (by omega)).mono ?_; rintro e w' ⟨rfl, hw⟩; rw [hw]; clear hw w'))
   go_ret
   exact ⟨rfl, _, rfl⟩
end Go.Proofs.YtklibmijiecbfaaGreat.Mm

/- Seal. -/
namespace Go.Proofs.YtklibmijiecbfaaGreat.Bp
end Go.Proofs.YtklibmijiecbfaaGreat.Bp
namespace Go.Proofs.YtklibmijiecbfaaGreat.Mm
open Go.Proofs.YtklibmijiecbfaaGreat.Bp
open Go.RowKit
attribute [local go_sem] PW_drew PW_drewN PW_fro PW_setRd PW_setWt

def sealM (m : MS) (q : Nat) (l : List UInt8) : MS := writeBy (setRd m q true) (q * 64) l

theorem seal_long (B : MB) (m : MS) (k : Nat) (s : ByteArray) (hs : 64 < s.size) :
  Calls Tryz.prog 88 #[.pointer (some ⟨B.g, 0, none⟩), .string s] (PW B m k) fun e w' => e = .returned (.tuple #[.int .u64 0, .iface 82 (.int .i64 1)]) ∧ ∃ k', w' = PW B m k' := by
 go_enter Tryz.func88, Tryz.ntmps88
 go_wp2
 go_ret2
 exact ⟨rfl, k, rfl⟩

theorem seal_ok (B : MB) (m : MS) (k q : Nat) (s : ByteArray) (hs : s.size ≤ 64) (hq8 : 8 ≤ q) (hq : q < 12) (hbef : ∀ n, 8 ≤ n → n < q → m.rd n = true) (hrq : m.rd q = false) :
  Calls Tryz.prog 88 #[.pointer (some ⟨B.g, 0, none⟩), .string s] (PW B m k) fun e w' => e = .returned (.tuple #[.int .u64 ((q * 64 : Nat) : Int), .nilIface]) ∧ ∃ k', w' = PW B (sealM m q s.data.toList) k' := by
 have HB := hide hbef
 have HR := hide hrq
 clear hbef hrq
 go_enter Tryz.func88, Tryz.ntmps88
 go_wp2
 go_loopw [6] (fun N w' => ∃ n : Nat, 8 ≤ n ∧ n ≤ q ∧ N = .int .i64 n ∧ w' = PW B m k) (fun N _ => 12 - (intOf N).toNat)
 case atStart => exact ⟨8, by omega, by omega, rfl, rfl⟩
 case round =>
  obtain ⟨n, h8, h12, rfl, rfl⟩ := hrel
  have c1 := PW_rd B m k n (by omega)
  by_cases hlt : n < q
  ·
   rw [HB.out n h8 hlt] at c1
   go_wp2
   go_round
   case rel => exact ⟨n + 1, by omega, by omega, by go_num, trivial⟩
   case measure => simp [intOf]; omega
  ·
   obtain rfl : n = q := by omega
   rw [HR.out] at c1
   go_wp2_with (first
    | (go_at_call 115; refine (start_any n (by omega) _).mono ?_; rintro e w' ⟨rfl, hw⟩; rw [hw]; clear hw w')
    | (refine wpList_copy_page rfl _ _ rfl B _ _ n 0 _ s (by omega) (by omega) rfl rfl ?_))
   go_ret2
   exact ⟨rfl, k, by
    have e : s.data.toList.take s.size = s.data.toList := List.take_of_length_le (by rw [← Lib.size_eq]; exact Nat.le_refl _)
    rw [e]
    rfl⟩

theorem seal_full (B : MB) (m : MS) (k : Nat) (s : ByteArray) (hs : s.size ≤ 64) (hall : ∀ n, 8 ≤ n → n < 12 → m.rd n = true) :
  Calls Tryz.prog 88 #[.pointer (some ⟨B.g, 0, none⟩), .string s] (PW B m k) fun e w' => e = .returned (.tuple #[.int .u64 0, .iface 82 (.int .i64 9)]) ∧ ∃ k', w' = PW B m k' := by
 have HB := hide hall
 clear hall
 go_enter Tryz.func88, Tryz.ntmps88
 go_wp2
 go_loopw [6] (fun N w' => ∃ n : Nat, 8 ≤ n ∧ n ≤ 12 ∧ N = .int .i64 n ∧ w' = PW B m k) (fun N _ => 12 - (intOf N).toNat)
 case atStart => exact ⟨8, by omega, by omega, rfl, rfl⟩
 case round =>
  obtain ⟨n, h8, h12, rfl, rfl⟩ := hrel
  by_cases hlt : n < 12
  ·
   have c1 := PW_rd B m k n hlt
   rw [HB.out n h8 hlt] at c1
   go_wp2
   go_round
   case rel => exact ⟨n + 1, by omega, by omega, by go_num, trivial⟩
   case measure => simp [intOf]; omega
  ·
   obtain rfl : n = 12 := by omega
   go_wp2
   go_ret2
   exact ⟨rfl, k, rfl⟩
end Go.Proofs.YtklibmijiecbfaaGreat.Mm

/- Get. -/
namespace Go.Proofs.YtklibmijiecbfaaGreat.Bp
end Go.Proofs.YtklibmijiecbfaaGreat.Bp
namespace Go.Proofs.YtklibmijiecbfaaGreat.Mm
open Go.Proofs.YtklibmijiecbfaaGreat.Bp
open Go.RowKit

def peek (m : MS) (a : Nat) : Option Nat := if a < 768 ∧ m.rd (a / 64) = true then some (m.byte a) else none
def byteV : Option Nat → Value
 | none => .tuple #[.int .u8 0, .iface 82 (.int .i64 5)]
 | some x => .tuple #[.int .u8 x, .nilIface]
theorem byte_any (B : MB) (m : MS) (k a : Nat) (ha : a < 18446744073709551616) :
  Calls Tryz.prog 53 #[.pointer (some ⟨B.g, 0, none⟩), .int .u64 a] (PW B m k) fun e w' => e = .returned (byteV (peek m a)) ∧ w' = PW B m k := by
 unfold peek
 by_cases h : a < 768
 ·
  cases hr : m.rd (a / 64) with
  | false => rw [if_neg (by rintro ⟨_, h2⟩; cases h2)]; exact byte_no B m k a h hr
  | true => rw [if_pos ⟨h, rfl⟩]; exact byte_ok B m k a h hr
 ·
  rw [if_neg (fun e => h e.1)]
  exact byte_out B m k a (by omega) ha

theorem get_bad (B : MB) (m : MS) (k : Nat) (a n : Int) (hn : n < 0 ∨ 512 < n) :
  Calls Tryz.prog 90 #[.pointer (some ⟨B.g, 0, none⟩), .int .u64 a, .int .i64 n] (PW B m k) fun e w' => e = .returned (.tuple #[.string ⟨#[]⟩, .iface 82 (.int .i64 1)]) ∧ w' = PW B m k := by
 by_cases h0 : n < 0
 ·
  go_enter Tryz.func90, Tryz.ntmps90
  go_wp2
  go_ret2
  exact ⟨rfl, rfl⟩
 ·
  go_enter Tryz.func90, Tryz.ntmps90
  go_wp2
  go_ret2
  exact ⟨rfl, rfl⟩

theorem info_u8 : ∃ i, Tryz.prog.info? 5 = some i ∧ i.zero = some (.int .u8 0) ∧ i.size = 1 ∧ i.bytes = 1 := by
 have hz : (Tryz.prog.info? 5).map (·.zero) = some (some (.int .u8 0)) := by kernel_rfl
 have hs : (Tryz.prog.info? 5).map (·.size) = some 1 := by kernel_rfl
 have hb : (Tryz.prog.info? 5).map (·.bytes) = some 1 := by kernel_rfl
 cases hq : Tryz.prog.info? 5 with
 | none => rw [hq] at hs; simp at hs
 | some i =>
  rw [hq] at hz hs hb
  simp at hz hs hb
  exact ⟨i, rfl, hz, hs, hb⟩
theorem made_VA (n : Nat) : madeCells (Value.int .u8 0).cells n = VA n fun _ => .int .u8 0 := by
 apply Array.ext_getElem?
 intro i
 by_cases h : i < n
 ·
  rw [VA_get n _ i h]
  simp [madeCells, Value.cells, h, Nat.mod_one]
 ·
  have e1 : (madeCells (Value.int .u8 0).cells n)[i]? = none := by simp [size_madeCells]; omega
  rw [e1, VA_none n _ i h]
theorem wpList_make_bytes {ops : Array Oper} {rest : List Oper} {o : Oper} {a : Act} {w : World} {Q : Exit → Act → World → Prop} (hgd : o.guard = none) (x y : Operand) (ho : o.op = .makeSlice 132 x y) (n : Nat)
  (hx : a.eval x = .int .i64 n) (hy : a.eval y = .int .i64 n) (hn : n ≤ 10000)
  (h : wpList Tryz.prog ops Q rest (a.put o.dst (.slice (some ⟨w.heap.size, 0, none⟩) n n)) (w.alloc (.cells (VA n fun _ => .int .u8 0) 5))) : wpList Tryz.prog ops Q (o :: rest) a w := by
 obtain ⟨i, hi, hz, hs, hb⟩ := info_u8
 have hr := run_make (P := Tryz.prog) w 132 5 i _ Tryz.underlying132 hi hz .i64 .i64 (n : Int) (n : Int) (by omega) (by omega) (by rw [hb]; omega) (by omega)
 rw [hs, Int.toNat_natCast, Nat.mul_one, made_VA] at hr
 refine wpList_plain hgd fun _ hK => ?_
 unfold Oper.wp execOp
 simp only [ho, hx, hy, Sem.run_bind, hr, Result.andThen_ok]
 exact hK _ _ h

def addrI (a i : Nat) : Nat := (a + i) % 18446744073709551616
def getR (m : MS) (a : Nat) : Nat → Option (List Nat)
 | 0 => some []
 | n + 1 => (getR m a n).bind fun l => (peek m (addrI a n)).map fun x => l ++ [x]

theorem byte_isM {g : Nat} {m : MS} {W : World} (h : IsM g m W) (a : Nat) (ha : a < 18446744073709551616) :
  Calls Tryz.prog 53 #[.pointer (some ⟨g, 0, none⟩), .int .u64 a] W fun e w' => e = .returned (byteV (peek m a)) ∧ w' = W := by
 have hb := byte_any ⟨W, g, m, h⟩ m 0 a ha
 rw [← PW_of h] at hb
 exact hb

def GW (W : World) (n : Nat) (f : Nat → Value) : World := W.alloc (.cells (VA n f) 5)
theorem GW_heap (W : World) (n : Nat) (f : Nat → Value) : (GW W n f).heap[W.heap.size]? = some (.cells (VA n f) 5 (0, 0)) := heap_alloc_new W _
theorem GW_isM {g : Nat} {m : MS} {W : World} (h : IsM g m W) (n : Nat) (f : Nat → Value) : IsM g m (GW W n f) := (heap_alloc_old W _ (h := (Array.getElem?_eq_some_iff.1 h).1)).trans h
theorem GW_cell (W : World) (n : Nat) (f : Nat → Value) (i : Nat) (hi : i < n) : (GW W n f).cell? ⟨W.heap.size, i, none⟩ = some (f i) := by
 rw [cell_of_row _ _ i _ _ _ (GW_heap W n f), VA_get n f i hi]
theorem GW_fro (W : World) (n : Nat) (f : Nat → Value) (i : Nat) : (GW W n f).frozen? ⟨W.heap.size, i, none⟩ = false := frozen_of_row _ _ i _ _ (GW_heap W n f)
theorem GW_set (W : World) (n : Nat) (f : Nat → Value) (i : Nat) (v : Value) : (GW W n f).setCell ⟨W.heap.size, i, none⟩ v = GW W n (updV f i v) := by
 rw [setCell_eq_setRow _ _ i _ _ _ _ (GW_heap W n f), VA_set]
 exact World.setRow_alloc_new W _ _ _
theorem GW_below (W : World) (n : Nat) (f : Nat → Value) : Below W.heap.size W (GW W n f) := (Below.refl _ _).alloc (Nat.le_refl _) _

def rowL (l : List Nat) : Nat → Value := fun j => .int .u8 (l.getD j 0)
theorem rowL_snoc (l : List Nat) (x : Nat) : updV (rowL l) l.length (.int .u8 x) = rowL (l ++ [x]) := by
 funext j
 unfold updV rowL
 rw [List.getD_eq_getElem?_getD, List.getD_eq_getElem?_getD, List.getElem?_append]
 by_cases h : j = l.length
 ·
  subst h; simp
 ·
  rw [if_neg h]
  by_cases h2 : j < l.length
  ·
   rw [if_pos h2]
  ·
   rw [if_neg h2, List.getElem?_eq_none (by omega), List.getElem?_eq_none (by simp; omega)]

def bytesOf (l : List Nat) : List UInt8 := l.map UInt8.ofNat
def getV : Option (List Nat) → Value
 | none => .tuple #[.string ⟨#[]⟩, .iface 82 (.int .i64 5)]
 | some l => .tuple #[.string ⟨(bytesOf l).toArray⟩, .nilIface]

theorem getR_len {m : MS} {a : Nat} : ∀ {n : Nat} {l : List Nat}, getR m a n = some l → l.length = n
 | 0, l, h => by rw [← Option.some.inj h]; rfl
 | n + 1, l, h => by
  rw [getR, Option.bind_eq_some_iff] at h
  obtain ⟨l', h1, h2⟩ := h
  rw [Option.map_eq_some_iff] at h2
  obtain ⟨x, _, rfl⟩ := h2
  rw [List.length_append, getR_len h1]
  rfl
theorem getR_none {m : MS} {a i : Nat} (h : getR m a i = none) : ∀ n, i ≤ n → getR m a n = none
 | 0, hn => by rw [show i = 0 by omega] at h; exact h
 | n + 1, hn => by
  by_cases he : i = n + 1
  ·
   rw [← he]; exact h
  ·
   rw [getR, getR_none h n (by omega)]; rfl

theorem getR_lt {m : MS} (hlt : ∀ x, m.byte x < 256) {a : Nat} : ∀ {n : Nat} {l : List Nat}, getR m a n = some l → ∀ x ∈ l, x < 256
 | 0, l, h => by rw [← Option.some.inj h]; intro x hx; cases hx
 | n + 1, l, h => by
  rw [getR, Option.bind_eq_some_iff] at h
  obtain ⟨l', h1, h2⟩ := h
  rw [Option.map_eq_some_iff] at h2
  obtain ⟨y, hy, rfl⟩ := h2
  intro x hx
  rcases List.mem_append.1 hx with h3 | h3
  ·
   exact getR_lt hlt h1 x h3
  ·
   rw [List.mem_singleton.1 h3]
   unfold peek at hy
   split at hy
   ·
    rw [← Option.some.inj hy]; exact hlt _
   ·
    cases hy
theorem bytesOf_get (l : List Nat) (j : Nat) (h1 : j < (bytesOf l).length) (h2 : j < l.length) : (bytesOf l)[j] = UInt8.ofNat l[j] := by simp [bytesOf]
theorem conv_row (W : World) (l : List Nat) (hl : ∀ x ∈ l, x < 256) : (convert 132 9 (.slice (some ⟨W.heap.size, 0, none⟩) l.length l.length)).run Tryz.prog (GW W l.length (rowL l)) = .ok (.string ⟨(bytesOf l).toArray⟩) (GW W l.length (rowL l)) := by
 have hb : (bytesOf l).length = l.length := by unfold bytesOf; rw [List.length_map]
 have h := run_convert_bytes_back (P := Tryz.prog) (GW W l.length (rowL l)) 132 9 5 ⟨W.heap.size, 0, none⟩ l.length (bytesOf l) Tryz.underlying132 Tryz.underlying5 Tryz.underlying9 fun j hj => by
  have hj' : j < l.length := by rw [hb] at hj; exact hj
  rw [show (⟨W.heap.size, 0, none⟩ : Addr).add j = ⟨W.heap.size, j, none⟩ by simp [Addr.add]; omega, GW_cell W _ _ j hj']
  unfold rowL
  rw [bytesOf_get l j hj hj', List.getD_eq_getElem?_getD, List.getElem?_eq_getElem hj']
  have hx := hl _ (List.getElem_mem hj')
  rw [Option.getD_some, UInt8.toNat_ofNat', Nat.mod_eq_of_lt (show l[j] < 2 ^ 8 from hx)]
 rw [hb] at h
 exact h

theorem get_any {g : Nat} {m : MS} {W : World} (hM : IsM g m W) (a n : Nat) (ha : a < 18446744073709551616) (hn : n ≤ 512) (hlt : ∀ x, m.byte x < 256) :
  Calls Tryz.prog 90 #[.pointer (some ⟨g, 0, none⟩), .int .u64 a, .int .i64 n] W fun e w' => e = .returned (getV (getR m a n)) ∧ Below W.heap.size W w' := by
 have HA := hide ha
 have HLT := hide hlt
 have HM := hide hM
 clear ha hlt hM
 obtain ⟨ai, hai⟩ : ∃ x : Int, x = (a : Int) := ⟨_, rfl⟩
 rw [← hai]
 have HAI := hide hai
 clear hai
 go_enter Tryz.func90, Tryz.ntmps90
 go_wp2_with (refine wpList_make_bytes rfl _ _ rfl n ?_ ?_ (by omega) ?_; (· rfl); (· rfl))
 go_loopw [22] (fun I w' => ∃ (i : Nat) (l : List Nat), i ≤ n ∧ I = .int .i64 i ∧ l.length = i ∧ w' = GW W n (rowL l) ∧ Hid (getR m a i = some l)) (fun I _ => n - (intOf I).toNat)
 case atStart => exact ⟨0, [], by omega, rfl, rfl, rfl, hide rfl⟩
 case round =>
  obtain ⟨i, l, hi, rfl, hll, rfl, HG⟩ := hrel
  by_cases hlt : i < n
  ·
   obtain ⟨x, hx⟩ : ∃ x : Int, x = ((addrI a i : Nat) : Int) := ⟨_, rfl⟩
   have hw : IntKind.u64.wrap (ai + i) = x := by
    rw [IntKind.wrap_u64, HAI.out, hx]
    unfold addrI
    omega
   have HC := byte_isM (GW_isM HM.out n (rowL l)) (addrI a i) (Nat.mod_lt _ (by decide))
   rw [← hx] at HC
   have HG2 := hide (show getR m a (i + 1) = (peek m (addrI a i)).map fun x => l ++ [x] by rw [getR, HG.out]; rfl)
   clear hx
   cases hp : peek m (addrI a i) with
   | none =>
    have HV := hide (show getR m a n = none from getR_none (by rw [HG2.out, hp]; rfl) n (show i + 1 ≤ n by omega))
    rw [hp] at HC
    simp only [byteV] at HC
    go_wp2_with (go_at_call 53; refine HC.mono ?_; rintro e w' ⟨rfl, hww⟩; rw [hww]; clear hww w')
    go_ret2
    exact ⟨by rw [HV.out]; rfl, GW_below _ _ _⟩
   | some y =>
    rw [hp] at HC HG2
    simp only [byteV] at HC
    have c1 := GW_cell W n (rowL l) i hlt
    have c2 := GW_fro W n (rowL l)
    have c3 := GW_set W n (rowL l) i (.int .u8 y)
    go_wp2_with (go_at_call 53; refine HC.mono ?_; rintro e w' ⟨rfl, hww⟩; rw [hww]; clear hww w')
    go_round
    case rel => exact ⟨i + 1, l ++ [y], by omega, by go_num, by rw [List.length_append, hll]; rfl, by rw [← rowL_snoc, hll], HG2⟩
    case measure => simp [intOf]; omega
  ·
   obtain rfl : i = n := by omega
   have hcv := conv_row W l (fun x hx => getR_lt HLT.out HG.out x hx)
   rw [hll] at hcv
   go_wp2
   go_ret2
   exact ⟨by rw [HG.out]; rfl, GW_below _ _ _⟩
end Go.Proofs.YtklibmijiecbfaaGreat.Mm
