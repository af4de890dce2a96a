/- Bytes read as an address: the code's and the document's. -/
import Derived.Test.YtkeljbekbgabpaaDoorABytes
import Derived.Test.YtkeljbekbgabpaaDoorByteAt
namespace Go.Proofs.YtkeljbekbgabpaaDoor
open Go.RowKit

def portOf (s : ByteArray) : Nat := byteAt s 2 * 256 + byteAt s 3
def ipR (s : ByteArray) : Nat → Nat
  | 0 => 0
  | k + 1 => ipR s k * 256 + byteAt s (4 + k)
theorem ipR_lt (s : ByteArray) : ∀ k, ipR s k < 256 ^ k
  | 0 => Nat.one_pos
  | k + 1 => by
    have h1 := ipR_lt s k
    have h2 := byteAt_lt s (4 + k)
    rw [ipR, Nat.pow_succ]
    omega
theorem ipR_step (s : ByteArray) (k : Nat) (hk : k < 4) : bits .or .u32 ((ipR s k : Int) * 256 % 4294967296) ((byteAt s (4 + k) : Int) % 4294967296) = ((ipR s (k + 1) : Nat) : Int) := by
  have h1 := ipR_lt s k
  have h2 := byteAt_lt s (4 + k)
  have h3 : ipR s k < 16777216 := Nat.lt_of_lt_of_le h1 (Nat.pow_le_pow_right (n := 256) (j := 3) (by decide) (by omega))
  rw [show (ipR s k : Int) * 256 % 4294967296 = (ipR s k : Int) * 256 by omega, show (byteAt s (4 + k) : Int) % 4294967296 = byteAt s (4 + k) by omega, u32_or8 _ _ h3 h2]
  rfl
def readR (s : ByteArray) : Option (Nat × Nat) := if s.size = 16 ∧ bytesL (ipR s 4) (portOf s) = s.data.toList then some (ipR s 4, portOf s) else none
def readV : Option (Nat × Nat) → Value
  | none => .tuple #[.int .u32 0, .int .i64 0, .iface 23 (.int .i64 3)]
  | some (ip, p) => .tuple #[.int .u32 ip, .int .i64 p, .nilIface]

theorem read_any (s : ByteArray) (w : World) : Calls Tryd.prog 22 #[.string s] w fun e w' => e = .returned (readV (readR s)) ∧ Below w.heap.size w w' := by
  by_cases hs : s.size = 16
  · have b2 := byteAt_eq s 2 (by omega)
    have b3 := byteAt_eq s 3 (by omega)
    have l2 := byteAt_lt s 2
    have l3 := byteAt_lt s 3
    have hor := i64_or8 (byteAt s 2) (byteAt s 3) l2 l3
    go_enter Tryd.func22, Tryd.ntmps22
    go_wp2
    go_quiet (fail)
    go_wp2
    go_loopw [22, 6] (fun i x w' => ∃ k m : Nat, k ≤ 4 ∧ i = .int .i64 k ∧ x = .int .u32 (ipR s k) ∧ w' = w.drewN m) (fun i _ _ => 4 - (intOf i).toNat)
    case atStart => exact ⟨0, nq, by omega, rfl, rfl, rfl⟩
    case round =>
      obtain ⟨k, m, hk, rfl, rfl, rfl⟩ := hrel
      by_cases hlt : k < 4
      · have bk := byteAt_eq s (4 + k) (by omega)
        have HQ := hide (ipR_step s k hlt)
        go_wp2
        go_round
        case rel => exact ⟨k + 1, m, by omega, by go_num, by rw [HQ.out], rfl⟩
        case measure => simp [intOf]; omega
      · obtain rfl : k = 4 := by omega
        have hp : byteAt s 2 * 256 + byteAt s 3 ≤ 65535 := by omega
        have hi : ipR s 4 < 4294967296 := ipR_lt s 4
        by_cases he : bytesL (ipR s 4) (portOf s) = s.data.toList
        · have HV := hide (show readV (readR s) = .tuple #[.int .u32 (ipR s 4), .int .i64 (portOf s), .nilIface] by unfold readR; rw [if_pos ⟨hs, he⟩]; rfl)
          have hc : (bytesL (ipR s 4) (byteAt s 2 * 256 + byteAt s 3) == s.toList) = true := by rw [Lib.toList_data, beq_iff_eq]; exact he
          clear he
          go_wp2_with (go_at_call 20; refine (bytes_any (ipR s 4) hi (byteAt s 2 * 256 + byteAt s 3) hp _).mono ?_; rintro e W ⟨rfl, hW⟩)
          go_ret3
          exact ⟨by rw [HV.out]; rfl, Below.trans (below_drewN' (Below.refl _ _) m) hW⟩
        · have HV := hide (show readV (readR s) = .tuple #[.int .u32 0, .int .i64 0, .iface 23 (.int .i64 3)] by unfold readR; rw [if_neg (fun h => he h.2)]; rfl)
          have hc : (bytesL (ipR s 4) (byteAt s 2 * 256 + byteAt s 3) == s.toList) = false := by rw [Lib.toList_data, beq_eq_false_iff_ne]; exact he
          clear he
          go_wp2_with (go_at_call 20; refine (bytes_any (ipR s 4) hi (byteAt s 2 * 256 + byteAt s 3) hp _).mono ?_; rintro e W ⟨rfl, hW⟩)
          go_ret3
          exact ⟨by rw [HV.out]; rfl, Below.trans (below_drewN' (Below.refl _ _) m) hW⟩
  · have HV := hide (show readV (readR s) = .tuple #[.int .u32 0, .int .i64 0, .iface 23 (.int .i64 3)] by unfold readR; rw [if_neg (fun h => hs h.1)]; rfl)
    have hb : ((s.size : Int) != 16) = true := by rw [bne_iff_ne]; omega
    go_enter Tryd.func22, Tryd.ntmps22
    go_wp2
    go_ret3
    exact ⟨by rw [HV.out]; rfl, Below.refl _ _⟩

/-- Bytes at a port that may not be. -/
theorem bytes_bad (ip port : Int) (hp : port < 0 ∨ 65535 < port) (w : World) : Calls Tryd.prog 20 #[.int .u32 ip, .int .i64 port] w fun e w' => e = .returned (.tuple #[.string ⟨#[]⟩, .iface 23 (.int .i64 1)]) ∧ w' = w := by
  by_cases h0 : port < 0
  · go_enter Tryd.func20, Tryd.ntmps20
    go_wp2
    go_ret2
    exact ⟨rfl, rfl⟩
  · go_enter Tryd.func20, Tryd.ntmps20
    go_wp2
    go_ret2
    exact ⟨rfl, rfl⟩

theorem readR_bytes (ip port : Nat) (hip : ip < 4294967296) (hp : port ≤ 65535) : readR ⟨(bytesL ip port).toArray⟩ = some (ip, port) := by
  have h1 : portOf ⟨(bytesL ip port).toArray⟩ = port := by
    show (UInt8.ofNat (port / 256)).toNat * 256 + (UInt8.ofNat (port % 256)).toNat = port
    rw [UInt8.toNat_ofNat', UInt8.toNat_ofNat']
    omega
  have h2 : ipR ⟨(bytesL ip port).toArray⟩ 4 = ip := by
    show (((0 * 256 + (UInt8.ofNat (ipB ip 0)).toNat) * 256 + (UInt8.ofNat (ipB ip 1)).toNat) * 256 + (UInt8.ofNat (ipB ip 2)).toNat) * 256 + (UInt8.ofNat (ipB ip 3)).toNat = ip
    rw [UInt8.toNat_ofNat', UInt8.toNat_ofNat', UInt8.toNat_ofNat', UInt8.toNat_ofNat']
    unfold ipB
    simp only [Nat.mod_mod]
    omega
  unfold readR
  rw [h1, h2, if_pos ⟨rfl, rfl⟩]
end Go.Proofs.YtkeljbekbgabpaaDoor
