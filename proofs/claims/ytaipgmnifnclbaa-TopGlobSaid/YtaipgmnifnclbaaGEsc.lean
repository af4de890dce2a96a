/- The walks of glob.escaped and glob.first. -/
import Derived.Test.YtaipgmnifnclbaaGClass
namespace Go.Proofs.Ytaipgmnifnclbaa
open Go.RowKit
attribute [local go_sem] LA_set LA_get LA_size LA_at

theorem class_any (s : ByteArray) (hs : 1 ≤ s.size) (hz : s.size ≤ 1000) (w : World) :
    Calls Try.prog 25 #[.string s] w fun e w' => e = .returned (classV s) ∧ Below w.heap.size w w' := by
  cases hn : notB s
  · exact class_no s hs hz hn w
  · exact class_yes s hs hz hn w

/-- A part, or none, as it is handed back: what it is like, whether it is of many, how many bytes it has. -/
def partV : Option ((Nat → Bool) × Bool × Nat) → Value
  | none => .tuple #[.agg (LA 257 fun _ => false), .int .i64 0]
  | some (f, m, n) => .tuple #[.agg (LA 257 (PF f m)), .int .i64 n]

def onlyF (b : Nat) : Nat → Bool := upd (fun _ => false) b true
def escR (s : ByteArray) : Option ((Nat → Bool) × Bool × Nat) := if 2 ≤ s.size ∧ signB (byteAt s 1) = true then some (onlyF (byteAt s 1), false, 2) else none

theorem signs_at (b : Nat) (hb : b < 256) (w : World) : Calls Try.prog 31 #[.string ⟨#[42, 63, 91, 93, 92]⟩, .int .u8 b] w fun e w' => (∃ n : Int, e = .returned (.int .i64 n) ∧ decide (n < 0) = !signB b) ∧ w' = w :=
  (strings_IndexByte _ _ w).mono fun _ _ ⟨he, hw⟩ => ⟨⟨_, he, signs_index b hb⟩, hw⟩

/-- The world of a function that has laid the block of its part. -/
def PW (w : World) : World := w.alloc (.cells (LA 257 fun _ => false) 47)
theorem PW_heap (w : World) : (PW w).heap[w.heap.size]? = some (.cells (LA 257 fun _ => false) 47 (0, 0)) := heap_alloc_new _ _
theorem PW_below (w : World) : Below w.heap.size w (PW w) := (Below.refl _ _).alloc (Nat.le_refl _) _
theorem PW_size (w : World) : w.heap.size < (PW w).heap.size := by show _ < (World.alloc _ _).heap.size; simp
theorem PW_later {w W : World} (h : Below (PW w).heap.size (PW w) W) : W.heap[w.heap.size]? = some (.cells (LA 257 fun _ => false) 47 (0, 0)) := (h.block _ (PW_size w)).trans (PW_heap w)
theorem PW_belowLater {w W : World} (h : Below (PW w).heap.size (PW w) W) : Below w.heap.size w W := (PW_below w).trans (h.mono (by have := PW_size w; omega))

set_option maxRecDepth 10000 in
theorem escaped_any (s : ByteArray) (hs : 1 ≤ s.size) (hz : s.size ≤ 1000) (w : World) :
    Calls Try.prog 26 #[.string s] w fun e w' => e = .returned (partV (escR s)) ∧ Below w.heap.size w w' := by
  have zp := zv_part
  by_cases h2 : s.size < 2
  · have hR : escR s = none := by unfold escR; rw [if_neg (by omega)]
    have HR := hide hR
    have d2 : decide ((s.size : Int) < 2) = true := by simp; omega
    have bp0 := build_part0
    clear hR
    go_enter Try.func26, Try.ntmps26
    go_wp2_with (first
      | (refine wpList_store_LA 47 257 rfl _ _ rfl w.heap.size ?_ (fun _ => false) ?_ size_part (fun _ => false) 47 ?_ ?_; (· rfl); (· rfl); (· with_reducible exact heap_alloc_new _ _))
      | (refine bodyPost_ret (results_part rfl _ _ w.heap.size (fun _ => false) (.int .i64 0) 47 rfl rfl (heap_setRow_same _ (heap_alloc_new _ _))) rfl ⟨?_, ?_⟩; (· rw [HR.out]; rfl); (· exact below_setRow (PW_below w) (Nat.le_refl _) _)))
  · have d2 : decide ((s.size : Int) < 2) = false := by simp; omega
    have e1 := byteAt_eq s 1 (by omega)
    have b1 := byteAt_lt s 1
    cases hg : signB (byteAt s 1)
    · have hR : escR s = none := by unfold escR; rw [if_neg (by rw [hg]; simp)]
      have HR := hide hR
      have bp0 := build_part0
      clear hR
      go_enter Try.func26, Try.ntmps26
      go_wp2_with (first
        | (go_at_call 31; refine (signs_at _ b1 _).mono ?_; rintro e w' ⟨⟨n, rfl, hn⟩, rfl⟩; rw [hg] at hn; simp only [Bool.not_false] at hn)
        | (refine wpList_store_LA 47 257 rfl _ _ rfl w.heap.size ?_ (fun _ => false) ?_ size_part (fun _ => false) 47 ?_ ?_; (· rfl); (· rfl); (· with_reducible exact heap_alloc_new _ _))
        | (refine bodyPost_ret (results_part rfl _ _ w.heap.size (fun _ => false) (.int .i64 0) 47 rfl rfl (heap_setRow_same _ (heap_alloc_new _ _))) rfl ⟨?_, ?_⟩; (· rw [HR.out]; rfl); (· exact below_setRow (PW_below w) (Nat.le_refl _) _)))
    · have hR : escR s = some (onlyF (byteAt s 1), false, 2) := by unfold escR; rw [if_pos ⟨by omega, hg⟩]
      have HR := hide hR
      clear hR
      go_enter Try.func26, Try.ntmps26
      go_wp2_with (first
        | (go_at_call 31; refine (signs_at _ b1 _).mono ?_; rintro e w' ⟨⟨n, rfl, hn⟩, rfl⟩; rw [hg] at hn; simp only [Bool.not_true] at hn)
        | (go_at_call 24; refine (only_any _ b1 _).mono ?_; rintro e W ⟨rfl, hW⟩)
        | (refine wpList_build_one rfl 47 _ _ rfl (.agg (LA 256 (onlyF (byteAt s 1)))) ?_ _ (built_part1 _) ?_; (· rfl))
        | (refine wpList_store_LA 47 257 rfl _ _ rfl w.heap.size ?_ (PF (onlyF (byteAt s 1)) false) ?_ size_part (fun _ => false) 47 ?_ ?_; (· rfl); (· rfl); (· exact PW_later hW))
        | (refine bodyPost_ret (results_part rfl _ _ w.heap.size (PF (onlyF (byteAt s 1)) false) (.int .i64 2) 47 rfl rfl (heap_setRow_same _ (PW_later hW))) rfl ⟨?_, ?_⟩; (· rw [HR.out]; rfl); (· exact below_setRow (PW_belowLater hW) (Nat.le_refl _) _)))
end Go.Proofs.Ytaipgmnifnclbaa
