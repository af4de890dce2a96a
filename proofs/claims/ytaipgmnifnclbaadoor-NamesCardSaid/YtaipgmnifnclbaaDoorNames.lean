/- The walk of Names. -/
import Derived.Test.YtaipgmnifnclbaaDoorNamesParts
namespace Go.Proofs.YtaipgmnifnclbaaDoor
open Go.RowKit

def nums : List Int := [4, 24, 40, 64, 8, 4, 4096, 12, 4, 255, 3, 40, 8000, 120, 300, 16, 9, 1, 2, 3, 1, 2, 3, 4, 5, 6, 7, 8, 1, 2, 3, 4, 1, 2, 3, 4, 5, 6, 7, 8, 9, 1, 2, 3, 14, 36, 22, 12, 38]

theorem two_nums (w : World) (o : Obj) (k : Nat) (h : k < 49) :
    (((w.alloc (.cells (List.map (Value.int IntKind.i64) nums).toArray 3)).alloc (.cells (List.map (Value.int IntKind.i64) nums).toArray 3)).alloc o).cell? ⟨w.heap.size, k, none⟩ = some (.int .i64 (nums.getD k 0)) ∧
    (((w.alloc (.cells (List.map (Value.int IntKind.i64) nums).toArray 3)).alloc (.cells (List.map (Value.int IntKind.i64) nums).toArray 3)).alloc o).cell? ⟨w.heap.size + 1, k, none⟩ = some (.int .i64 (nums.getD k 0)) := by
  have h49 : k < nums.length := h
  have e : (List.map (Value.int IntKind.i64) nums).toArray[k]? = some (.int .i64 (nums.getD k 0)) := by
    simp [h49]
  constructor
  · rw [World.cell?_alloc_old _ _ _ (by simp; omega), World.cell?_alloc_old _ _ _ (by simp), World.cell?_alloc_new, e]
  · rw [World.cell?_alloc_old _ _ _ (by simp), show w.heap.size + 1 = (w.alloc (.cells (List.map (Value.int IntKind.i64) nums).toArray 3)).heap.size by simp, World.cell?_alloc_new, e]

theorem nine_errs (k : Nat) (h : k < 9) : (#[.iface 23 (.int .i64 1), .iface 23 (.int .i64 2), .iface 23 (.int .i64 3), .iface 23 (.int .i64 4), .iface 23 (.int .i64 5), .iface 23 (.int .i64 6), .iface 23 (.int .i64 7), .iface 23 (.int .i64 8), .iface 23 (.int .i64 9)] : Array Value)[k]? = some (.iface 23 (.int .i64 ((k : Int) + 1))) := by
  match k, h with
  | 0, _ => rfl
  | 1, _ => rfl
  | 2, _ => rfl
  | 3, _ => rfl
  | 4, _ => rfl
  | 5, _ => rfl
  | 6, _ => rfl
  | 7, _ => rfl
  | 8, _ => rfl

/-- What holds of the world behind the three literals. -/
def Laid3 (w W : World) : Prop := Below w.heap.size w W ∧ W.heap.size = w.heap.size + 3 ∧ (∀ k, k < 49 → W.cell? ⟨w.heap.size, k, none⟩ = some (.int .i64 (nums.getD k 0))) ∧ (∀ k, k < 49 → W.cell? ⟨w.heap.size + 1, k, none⟩ = some (.int .i64 (nums.getD k 0)))
  ∧ ∀ k : Nat, k < 9 → W.cell? ⟨w.heap.size + 1 + 1, k, none⟩ = some (.iface 23 (.int .i64 ((k : Int) + 1)))

/-- What holds of the world behind the call of Forms. -/
def Laid4 (w : World) (b : Nat) (W : World) : Prop := Below w.heap.size w W ∧ (∀ k, k < 49 → W.cell? ⟨w.heap.size, k, none⟩ = some (.int .i64 (nums.getD k 0))) ∧ (∀ k, k < 49 → W.cell? ⟨w.heap.size + 1, k, none⟩ = some (.int .i64 (nums.getD k 0)))
  ∧ (∀ i k : Nat, i < 9 → k < 4 → W.cell? ⟨b, i * 5 + 1 + k, none⟩ = some (.int .i64 (kindAt i k))) ∧ W.cell? ⟨b, 40, none⟩ = some (.string ⟨#[115, 101, 110, 100]⟩)
theorem laid4 {w W W1 : World} (hB : Below w.heap.size w W) (hs : W.heap.size = w.heap.size + 3) (hn1 : ∀ k, k < 49 → W.cell? ⟨w.heap.size, k, none⟩ = some (.int .i64 (nums.getD k 0))) (hn2 : ∀ k, k < 49 → W.cell? ⟨w.heap.size + 1, k, none⟩ = some (.int .i64 (nums.getD k 0)))
    (hB1 : Below W.heap.size W W1) : Laid4 w W1.heap.size (W1.alloc (.cells formsArr 31)) := by
  have hz := hB1.size
  refine ⟨(hB.trans (hB1.mono (by omega))).alloc (by omega) _, fun k h => ?_, fun k h => ?_, fun i k hi hk => ?_, ?_⟩
  · rw [World.cell?_alloc_old _ _ _ (by simp; omega), hB1.cell (by simp; omega), hn1 k h]
  · rw [World.cell?_alloc_old _ _ _ (by simp; omega), hB1.cell (by simp; omega), hn2 k h]
  · rw [World.cell?_alloc_new, Nat.mul_comm]; exact forms_cell i hi k hk
  · rw [World.cell?_alloc_new]; rfl

set_option maxRecDepth 100000 in
set_option maxHeartbeats 2000000 in
theorem names_any (w : World) :
    Calls Tryd.prog 3 #[] w fun e w' => e = .returned (.bool true) ∧ Below w.heap.size w w' := by
  go_enter Tryd.func3, Tryd.ntmps3
  go_wp2_with (first | (refine wpList_buildFlatAt rfl 22 3 49 _ rfl .i64 nums w.heap.size rfl (some 12) rfl Tryd.underlying22 (by kernel_rfl) (by kernel_rfl) rfl (by decide) (by decide) (by kernel_rfl) ?_) | (refine wpList_buildFlatAt rfl 22 3 49 _ rfl .i64 nums (w.heap.size + 1) (by simp) (some 13) rfl Tryd.underlying22 (by kernel_rfl) (by kernel_rfl) rfl (by decide) (by decide) (by kernel_rfl) ?_))
  refine wp_forget (Laid3 w) ⟨(((Below.refl _ _).alloc (Nat.le_refl _) _).alloc (by simp) _).alloc (by simp; omega) _, by simp, fun k h => (two_nums w _ k h).1, fun k h => (two_nums w _ k h).2, fun k h => by rw [show w.heap.size + 1 + 1 = ((w.alloc (.cells (List.map (Value.int IntKind.i64) nums).toArray 3)).alloc (.cells (List.map (Value.int IntKind.i64) nums).toArray 3)).heap.size by simp, World.cell?_alloc_new]; exact nine_errs k h⟩ ?_
  rintro W ⟨hB, hs, hn1, hn2, he⟩
  have Hn1 := hide hn1
  have Hn2 := hide hn2
  have Hs := hide hs
  clear hn1 hn2 hs
  go_loop [4] (fun i => ∃ k : Nat, k ≤ 9 ∧ i = .int .i64 k) (fun i => 9 - (intOf i).toNat)
  case atStart => exact ⟨0, by omega, rfl⟩
  case round =>
    obtain ⟨k, hk, rfl⟩ := hrel
    by_cases hlt : k < 9
    · have hc := he k hlt
      have ht : (decide (0 < (k : Int) + 1) && (k : Int) + 1 == (k : Int) + 1) = true := by simp
      clear he
      go_wp2_with (go_at_call 6; refine (same_errno _ _ _).mono ?_; rintro e w' ⟨rfl, rfl⟩; rw [ht])
      go_round
      case rel => exact ⟨k + 1, by omega, by go_num⟩
      case measure => simp [intOf]; omega
    · clear he
      go_wp2_with (first | (go_at_call 7; refine (forms_any _).mono ?_; rintro e W1 ⟨rfl, hB1⟩) | (refine wpList_store_row rfl 31 _ _ rfl W1.heap.size formsArr rfl rfl 31 _ (heap_alloc_new _ _) (by kernel_rfl) (by kernel_rfl) (by kernel_rfl) ?_))
      rw [World.setRow_alloc_new]
      refine wp_forget (Laid4 w W1.heap.size) (laid4 hB (Hs.out) Hn1.out Hn2.out hB1) ?_
      generalize W1.heap.size = b
      clear hB1 hB Hs Hn1 Hn2
      rintro V ⟨hB, hn1, hn2, hf, h40⟩
      have Hn1 := hide hn1
      have Hn2 := hide hn2
      clear hn1 hn2
      go_loopw [6] (fun i w' => ∃ k : Nat, k ≤ 9 ∧ i = .int .i64 k ∧ ∃ m, w' = V.drewN m) (fun i _ => 9 - (intOf i).toNat)
      case atStart => exact ⟨0, by omega, rfl, 0, rfl⟩
      case round =>
        obtain ⟨i, hi, rfl, m, rfl⟩ := hrel
        by_cases hli : i < 9
        · have Hf := hide hf
          clear hf
          go_wp2_with fail
          go_loopw [7] (fun j w' => ∃ k : Nat, k ≤ 4 ∧ j = .int .i64 k ∧ ∃ m, w' = V.drewN m) (fun j _ => 4 - (intOf j).toNat)
          case atStart => exact ⟨0, by omega, rfl, _, rfl⟩
          case round =>
            obtain ⟨j, hj, rfl, m', rfl⟩ := hrel
            by_cases hlj : j < 4
            · have hc := Hf.out i j hli hlj
              go_wp2_with fail
              go_quiet ((go_at_call 8; exact quiet_same (kind_any _ _ hli hlj _)))
              go_wp2
              go_roundw
              case rel => exact ⟨j + 1, by omega, by go_num, _, rfl⟩
              case measure => simp [intOf]; omega
            · go_wp2_with fail
              go_roundw
              case rel => exact ⟨i + 1, by omega, by go_num, _, rfl⟩
              case measure => simp [intOf]; omega
        · clear hf
          have H1 : ∀ k, k < 49 → (V.drewN m).cell? ⟨w.heap.size, k, none⟩ = some (.int .i64 ((fun k => nums.getD k 0) k)) := Hn1.out
          have H2 : ∀ k, k < 49 → (V.drewN m).cell? ⟨w.heap.size + 1, k, none⟩ = some (.int .i64 ((fun k => nums.getD k 0) k)) := Hn2.out
          have HH1 := hide H1
          have HH2 := hide H2
          clear H1 H2
          go_wp2_with (first | (go_at_call 9; refine (same_numbers w.heap.size (w.heap.size + 1) 49 49 49 (fun k => nums.getD k 0) (V.drewN m) (by omega) HH1.out HH2.out).mono ?_; rintro e w' ⟨rfl, q, rfl⟩) | (go_at_call 10; refine (error9 _).mono ?_; rintro e w' ⟨rfl, rfl⟩))
          go_ret
          exact ⟨rfl, below_drewN' hB _⟩

end Go.Proofs.YtaipgmnifnclbaaDoor
