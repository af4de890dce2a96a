/- Walks of glob.only and glob.others. -/
import Derived.Test.YtaipgmnifnclbaaGArr2
namespace Go.Proofs.Ytaipgmnifnclbaa
open Go.RowKit
attribute [local go_sem] LA_set LA_get LA_size LA_at

set_option maxRecDepth 10000 in
theorem only_any (b : Nat) (hb : b < 256) (w : World) :
    Calls Try.prog 24 #[.int .u8 b] w fun e w' => e = .returned (.agg (LA 256 (upd (fun _ => false) b true))) ∧ Below w.heap.size w w' := by
  have ha := zv_like
  go_enter Try.func24, Try.ntmps24
  go_wp2_with (first
    | (refine wpList_load_LA 45 256 256 4 rfl _ rfl ?g ?hx Try.underlying45 size_like (upd (fun _ => false) b true) 45 ?hg ?h; (case g => exact w.heap.size + 1); (case hx => rfl); (case hg => with_reducible exact heap_alloc2_new _ _ _))
    | (refine wpList_store_LA 45 256 rfl _ _ rfl ?g2 ?hx2 (upd (fun _ => false) b true) ?hy2 size_like (fun _ => false) 45 ?hg2 ?h2; (case g2 => exact w.heap.size); (case hx2 => rfl); (case hy2 => rfl); (case hg2 => with_reducible exact heap_alloc2_old _ _ _))
    | (refine bodyPost_ret (results_LA 256 256 4 rfl _ _ w.heap.size _ 45 rfl (heap_setRow_same _ (heap_alloc2_old _ _ _)) Try.underlying45 size_like) rfl ⟨rfl, ?hb⟩; exact below_setRow (((Below.refl _ _).alloc (Nat.le_refl _) _).alloc (by simp) _) (Nat.le_refl _) _))

/-- What the rounds of 'others' have turned so far. -/
def turned (f : Nat → Bool) (k : Nat) : Nat → Bool := fun i => if i < k then !f i else f i
theorem turned_zero (f : Nat → Bool) : turned f 0 = f := by funext i; simp [turned]
theorem turned_succ (f : Nat → Bool) (k : Nat) : upd (turned f k) k (!f k) = turned f (k + 1) := by
  funext i
  simp only [upd, turned]
  by_cases h : i = k
  · subst h; simp
  · by_cases h2 : i < k
    · simp [h, h2, show i < k + 1 by omega]
    · simp [h, h2, show ¬ i < k + 1 by omega]
theorem turned_all (f : Nat → Bool) : LA 256 (turned f 256) = LA 256 fun i => !f i := LA_congr _ _ _ fun i h => by simp [turned, h]

set_option maxRecDepth 10000 in
theorem others_any (f : Nat → Bool) (w : World) :
    Calls Try.prog 23 #[.agg (LA 256 f)] w fun e w' => e = .returned (.agg (LA 256 fun i => !f i)) ∧ Below w.heap.size w w' := by
  have ha := zv_like
  go_enter Try.func23, Try.ntmps23
  go_wp2_with fail
  go_loopw [4] (fun i w' => ∃ k : Nat, k ≤ 256 ∧ i = .int .i64 k ∧ w' = (w.alloc (.cells (LA 256 (turned f k)) 45)).alloc (.cells (LA 256 fun _ => false) 45)) (fun i _ => 256 - (intOf i).toNat)
  case atStart => exact ⟨0, by omega, rfl, by rw [turned_zero]⟩
  case round =>
    obtain ⟨k, hk, rfl, rfl⟩ := hrel
    by_cases hlt : k < 256
    · have hf : turned f k k = f k := by simp [turned]
      go_wp2_with fail
      go_roundw
      case rel => exact ⟨k + 1, by omega, by go_num, by rw [turned_succ]⟩
      case measure => simp [intOf]; omega
    · have e : k = 256 := by omega
      have He := hide e
      clear e
      go_wp2_with (first
        | (refine wpList_load_LA 45 256 256 4 rfl _ rfl ?g ?hx Try.underlying45 size_like (turned f k) 45 ?hg ?h; (case g => exact w.heap.size); (case hx => rfl); (case hg => with_reducible exact heap_alloc2_old _ _ _))
        | (refine wpList_store_LA 45 256 rfl _ _ rfl ?g2 ?hx2 (turned f k) ?hy2 size_like (fun _ => false) 45 ?hg2 ?h2; (case g2 => exact w.heap.size + 1); (case hx2 => rfl); (case hy2 => rfl); (case hg2 => with_reducible exact heap_alloc2_new _ _ _))
        | (refine bodyPost_ret (results_LA 256 256 4 rfl _ _ (w.heap.size + 1) _ 45 rfl (heap_setRow_same _ (heap_alloc2_new _ _ _)) Try.underlying45 size_like) rfl ⟨?he, ?hb⟩; (case he => rw [He.out, turned_all]); (case hb => exact below_setRow (((Below.refl _ _).alloc (Nat.le_refl _) _).alloc (by simp) _) (by omega) _)))
end Go.Proofs.Ytaipgmnifnclbaa
