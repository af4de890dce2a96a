/- Copy of memory; the document's whole memory loaded and stored. -/
import Derived.Test.YtlpcjonklfnejaaMRef4
namespace Go.Proofs.Ytlpcjonklfnejaa
open Go.RowKit

theorem VA_one (n : Nat) (f : Nat → Value) (h : ∀ i, (f i).oneCell' = true) : (VA n f).all (·.oneCell') = true := by
  rw [Array.all_eq_true_iff_forall_mem]
  intro v hv
  obtain ⟨i, hi, rfl⟩ := Array.mem_iff_getElem.1 hv
  have h1 := VA_get n f i (by rw [VA_size] at hi; exact hi)
  rw [Array.getElem?_eq_getElem hi] at h1
  rw [Option.some.inj h1]
  exact h i
theorem cellM_one (m : MS) (i : Nat) : (cellM m i).oneCell' = true := by
  unfold cellM
  split
  · rfl
  · split <;> rfl
theorem cellR_one (r : RS) (i : Nat) : (cellR r i).oneCell' = true := by
  unfold cellR
  split <;> rfl
theorem size_mem : (Try.prog.info? 115).map (·.size) = some 792 := by kernel_rfl
theorem size_rmem : (Try.prog.info? 41).map (·.size) = some 780 := by kernel_rfl

theorem copy_any {g : Nat} {m : MS} {W : World} (h : IsM g m W) :
    Calls Try.prog 37 #[.pointer (some ⟨g, 0, none⟩)] W fun e w' => e = .returned (.pointer (some ⟨W.heap.size, 0, none⟩)) ∧ IsM W.heap.size m w' ∧ Below W.heap.size W w' := by
  have HM := hide h
  clear h
  go_enter Try.func37, Try.ntmps37
  go_wp2_with (first
    | (refine wpList_load_row rfl 115 _ rfl g ?_ 115 (VA 792 (cellM m)) (0, 0) _ ?_ Try.underlying115 rfl (by rw [VA_size]; exact size_mem) ?_; (· rfl); (· exact HM.out))
    | (refine wpList_store_row rfl 115 _ _ rfl W.heap.size (VA 792 (cellM m)) ?_ ?_ 115 Try.zeroCells115 ?_ (by rw [VA_size]; exact size_mem) (by rw [zero_cells, VA_size, VA_size]) (VA_one _ _ (cellM_one m)) ?_; (· rfl); (· rfl); (· exact heap_alloc_new W _)))
  go_ret
  refine ⟨rfl, ?_, ?_⟩
  · show (World.setRow _ _ _).heap[_]? = _
    exact setRow_heap _ _ _ _ _ _ (heap_alloc_new W _)
  · rw [World.setRow_alloc_new]
    exact (Below.refl _ _).alloc (Nat.le_refl _) _
end Go.Proofs.Ytlpcjonklfnejaa
