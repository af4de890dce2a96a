/- addr.numbers. -/
import Derived.Test.YtkeljbekbgabpaaDoorABytes
import Derived.Test.YtkeljbekbgabpaaDoorAParse
namespace Go.Proofs.YtkeljbekbgabpaaDoor
open Go.RowKit

/-- The numbers, k of the address's written. -/
def numsK (ip b lo hi k : Nat) : List Nat := [if 0 < k then ipB ip 0 else 0, if 1 < k then ipB ip 1 else 0, if 2 < k then ipB ip 2 else 0, if 3 < k then ipB ip 3 else 0, b, lo, hi]
theorem numsK_set (ip b lo hi k : Nat) (hk : k < 4) : (padN (numsK ip b lo hi k)).setIfInBounds k (.int .i64 (ipB ip k : Nat)) = padN (numsK ip b lo hi (k + 1)) := by
  match k, hk with
  | 0, _ => rfl
  | 1, _ => rfl
  | 2, _ => rfl
  | 3, _ => rfl
theorem numsK_end (ip b lo hi : Nat) (hip : ip < 4294967296) : numsK ip b lo hi 4 = netNums ip b lo hi := by
  show [ipB ip 0, ipB ip 1, ipB ip 2, ipB ip 3, b, lo, hi] = _
  unfold ipB netNums
  rw [show ip / 2 ^ (24 - 8 * 0) % 256 = ip / 16777216 by omega, show ip / 2 ^ (24 - 8 * 1) % 256 = ip / 65536 % 256 by omega, show ip / 2 ^ (24 - 8 * 2) % 256 = ip / 256 % 256 by omega, show ip / 2 ^ (24 - 8 * 3) % 256 = ip % 256 by omega]

theorem SW_old (V : World) (ns : List Nat) (m g : Nat) (hg : g < V.heap.size) (o : Nat) : (SW V ns m).cell? ⟨g, o, none⟩ = V.cell? ⟨g, o, none⟩ := (SW_below V ns m).cell (p := ⟨g, o, none⟩) hg
theorem SW_drew (w : World) (ns : List Nat) (m : Nat) : (SW w ns m).drew = SW w ns (m + 1) := SW_drewN w ns m 1
attribute [local go_sem] SW_drewN SW_drew

theorem numbers_any (ip b lo hi : Nat) (hip : ip < 4294967296) (w : World) :
    Calls Tryd.prog 26 #[netV ip b lo hi] w fun e w' => e = .returned (.agg (padN (netNums ip b lo hi))) ∧ Below w.heap.size w w' := by
  have HEND := hide (numsK_end ip b lo hi hip)
  go_enter Tryd.func26, Tryd.ntmps26
  go_wp2
  obtain ⟨V, hV⟩ : ∃ V, V = w.alloc (.cells #[.int .u32 ip, .int .i64 b, .int .i64 lo, .int .i64 hi] 39) := ⟨_, rfl⟩
  have hz : w.heap.size + 1 = V.heap.size := by rw [hV]; simp
  have hBV := hide (show Below w.heap.size w V by rw [hV]; exact (Below.refl _ _).alloc (Nat.le_refl _) _)
  have hc0 : V.cell? ⟨w.heap.size, 0, none⟩ = some (.int .u32 ip) := by rw [hV]; exact World.cell?_alloc_at _ _ _ _ rfl
  have hc : ∀ ns m, (SW V ns m).cell? ⟨w.heap.size, 0, none⟩ = some (.int .u32 ip) := fun ns m => (SW_old V ns m _ (by omega) 0).trans hc0
  rw [← hV, hz]
  clear hV hc0
  go_loopw [12] (fun i w' => ∃ k m : Nat, k ≤ 4 ∧ i = .int .i64 k ∧ w' = SW V (numsK ip b lo hi k) m) (fun i _ => 4 - (intOf i).toNat)
  case atStart => exact ⟨0, 0, by omega, rfl, (World.drewN_zero _).symm⟩
  case round =>
    obtain ⟨k, m, hk, rfl, rfl⟩ := hrel
    by_cases hlt : k < 4
    · have hcell : ∀ m, (SW V (numsK ip b lo hi k) m).cell? ⟨V.heap.size + 1, k, none⟩ = some _ := fun m => SW_cell V (numsK ip b lo hi k) m k (by omega)
      have hfro := SW_frozen V (numsK ip b lo hi k)
      have hlb := ipB_lt ip k
      have hset : ∀ m, (SW V (numsK ip b lo hi k) m).setCell ⟨V.heap.size + 1, k, none⟩ (.int .i64 (ipB ip k : Nat)) = SW V (numsK ip b lo hi (k + 1)) m := fun m => SW_row V _ _ m k _ (numsK_set ip b lo hi k hlt)
      go_wp2_with (go_at_call 31; refine (ipByte_any ip k hip (by omega) _).mono ?_; rintro e w' ⟨rfl, rfl⟩)
      go_round
      case rel => exact ⟨k + 1, m, by omega, by go_num, rfl⟩
      case measure => simp [intOf]; omega
    · obtain rfl : k = 4 := by omega
      go_wp2_with (first
        | (refine wpList_load_pad rfl _ rfl V _ _ rfl ?_)
        | (refine wpList_store_pad rfl _ _ rfl V _ _ rfl rfl ?_))
      refine bodyPost_ret (results_cell_row rfl _ _ V.heap.size 61 (padN (numsK ip b lo hi 4)) (0, 0) _ rfl (setRow_heap _ _ _ _ _ _ (SW_heap0 V _ _)) Tryd.underlying61 rfl size_arr7) rfl ⟨?_, ?_⟩
      · rw [HEND.out]
      · exact hBV.out.trans ((SWr_below V _ _).mono (by omega))
end Go.Proofs.YtkeljbekbgabpaaDoor
