/- An address's bytes: the code's and the document's. -/
import Derived.Test.YtkeljbekbgabpaaDoorABits
import Derived.Laws.Slices
namespace Go.Proofs.YtkeljbekbgabpaaDoor
open Go.RowKit

/-- A byte of an address, the highest at 0. -/
def ipB (ip i : Nat) : Nat := ip / 2 ^ (24 - 8 * i) % 256

theorem ipByte_any (ip i : Nat) (_hip : ip < 4294967296) (hi : i ≤ 3) (w : World) : Calls Tryd.prog 31 #[.int .u32 ip, .int .i64 i] w fun e w' => e = .returned (.int .u8 (ipB ip i)) ∧ w' = w := by
  go_enter Tryd.func31, Tryd.ntmps31
  go_wp2
  go_ret
  refine ⟨?_, rfl⟩
  refine ret_int ?_
  unfold ipB
  simp

/-- The sixteen cells, k of the address's bytes written. -/
def bArr (ip port k : Nat) : Array Value := #[.int .u8 2, .int .u8 0, .int .u8 (port / 256 : Nat), .int .u8 (port % 256 : Nat), .int .u8 (if 0 < k then ipB ip 0 else 0 : Nat), .int .u8 (if 1 < k then ipB ip 1 else 0 : Nat), .int .u8 (if 2 < k then ipB ip 2 else 0 : Nat), .int .u8 (if 3 < k then ipB ip 3 else 0 : Nat), .int .u8 0, .int .u8 0, .int .u8 0, .int .u8 0, .int .u8 0, .int .u8 0, .int .u8 0, .int .u8 0]

theorem bArr_get (ip port k : Nat) (hk : k < 4) : (bArr ip port k)[4 + k]? = some (.int .u8 0) := by
  match k, hk with
  | 0, _ => rfl
  | 1, _ => rfl
  | 2, _ => rfl
  | 3, _ => rfl
theorem bArr_set (ip port k : Nat) (hk : k < 4) : (bArr ip port k).setIfInBounds (4 + k) (.int .u8 (ipB ip k : Nat)) = bArr ip port (k + 1) := by
  match k, hk with
  | 0, _ => rfl
  | 1, _ => rfl
  | 2, _ => rfl
  | 3, _ => rfl
theorem bArr_world (w : World) (ip port k m : Nat) (hk : k < 4) : ((w.alloc (.cells (bArr ip port k) 71)).drewN m).setCell ⟨w.heap.size, 4 + k, none⟩ (.int .u8 (ipB ip k : Nat)) = (w.alloc (.cells (bArr ip port (k + 1)) 71)).drewN m := by
  have h : ((w.alloc (.cells (bArr ip port k) 71)).drewN m).heap[w.heap.size]? = some (.cells (bArr ip port k) 71 (0, 0)) := heap_alloc_new w _
  rw [setCell_eq_setRow _ _ (4 + k) _ _ _ _ h, bArr_set ip port k hk]
  exact congrArg (World.drewN · m) (World.setRow_alloc_new w _ _ _)
attribute [local go_sem] bArr_get

def bytesL (ip port : Nat) : List UInt8 := [2, 0, UInt8.ofNat (port / 256), UInt8.ofNat (port % 256), UInt8.ofNat (ipB ip 0), UInt8.ofNat (ipB ip 1), UInt8.ofNat (ipB ip 2), UInt8.ofNat (ipB ip 3), 0, 0, 0, 0, 0, 0, 0, 0]

theorem ofN (n : Nat) (h : n < 256) : ((UInt8.ofNat n).toNat : Int) = n := by
  rw [UInt8.toNat_ofNat', Nat.mod_eq_of_lt h]
theorem ipB_lt (ip i : Nat) : ipB ip i < 256 := Nat.mod_lt _ (by decide)

theorem bytes_cells (ip : Nat) (_hip : ip < 4294967296) (port : Nat) (hp : port ≤ 65535) : bArr ip port 4 = ((bytesL ip port).map fun b => Value.int .u8 (b.toNat : Int)).toArray := by
  simp only [bytesL, List.map_cons, List.map_nil, ofN _ (ipB_lt ip _), ofN (port / 256) (by omega), ofN (port % 256) (by omega)]
  rfl

theorem bytes_conv (w : World) (ip : Nat) (hip : ip < 4294967296) (port : Nat) (hp : port ≤ 65535) (m : Nat) :
    (convert 73 9 (.slice (some ⟨w.heap.size, 0, none⟩) 16 16)).run Tryd.prog ((w.alloc (.cells (bArr ip port 4) 71)).drewN m) = .ok (.string ⟨(bytesL ip port).toArray⟩) ((w.alloc (.cells (bArr ip port 4) 71)).drewN m) := by
  refine run_convert_bytes_back (P := Tryd.prog) _ 73 9 5 ⟨w.heap.size, 0, none⟩ 16 (bytesL ip port) Tryd.underlying73 Tryd.underlying5 Tryd.underlying9 fun j hj => ?_
  have h : ((w.alloc (.cells (bArr ip port 4) 71)).drewN m).heap[w.heap.size]? = some (.cells (bArr ip port 4) 71 (0, 0)) := heap_alloc_new w _
  rw [show (⟨w.heap.size, 0, none⟩ : Addr).add j = ⟨w.heap.size, j, none⟩ by simp [Addr.add]; omega, cell_of_row _ _ j _ _ _ h, bytes_cells ip hip port hp]
  simp [hj]

theorem bytes_any (ip : Nat) (hip : ip < 4294967296) (port : Nat) (hp : port ≤ 65535) (w : World) : Calls Tryd.prog 20 #[.int .u32 ip, .int .i64 port] w fun e w' => e = .returned (.tuple #[.string ⟨(bytesL ip port).toArray⟩, .nilIface]) ∧ Below w.heap.size w w' := by
  go_enter Tryd.func20, Tryd.ntmps20
  go_wp2
  go_loopw [21] (fun i w' => ∃ k m : Nat, k ≤ 4 ∧ i = .int .i64 k ∧ w' = (w.alloc (.cells (bArr ip port k) 71)).drewN m) (fun i _ => 4 - (intOf i).toNat)
  case atStart => exact ⟨0, 0, by omega, rfl, rfl⟩
  case round =>
    obtain ⟨k, m, hk, rfl, rfl⟩ := hrel
    by_cases hlt : k < 4
    · have hg := bArr_get ip port k hlt
      go_wp2_with (go_at_call 31; refine (ipByte_any ip k hip (by omega) _).mono ?_; rintro e w' ⟨rfl, rfl⟩)
      go_round
      case rel => exact ⟨k + 1, m, by omega, by go_num, bArr_world w ip port k m hlt⟩
      case measure => simp [intOf]; omega
    · obtain rfl : k = 4 := by omega
      have hcv := bytes_conv w ip hip port hp m
      go_wp2
      go_ret2
      exact ⟨rfl, below_drewN' ((Below.refl _ _).alloc (Nat.le_refl _) _) _⟩
end Go.Proofs.YtkeljbekbgabpaaDoor
