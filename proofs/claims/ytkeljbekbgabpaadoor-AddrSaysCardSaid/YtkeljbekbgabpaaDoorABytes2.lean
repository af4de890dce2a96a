/- The document's bytes of an address, and how it reads them. -/
import Derived.Test.YtkeljbekbgabpaaDoorARead
import Derived.Laws.MakeOwn
namespace Go.Proofs.YtkeljbekbgabpaaDoor
open Go.RowKit

theorem info_u8 : ∃ i, Tryd.prog.info? 5 = some i ∧ i.zero = some (.int .u8 0) ∧ i.size = 1 ∧ i.bytes = 1 := by
  have hz : (Tryd.prog.info? 5).map (·.zero) = some (some (.int .u8 0)) := by kernel_rfl
  have hs : (Tryd.prog.info? 5).map (·.size) = some 1 := by kernel_rfl
  have hb : (Tryd.prog.info? 5).map (·.bytes) = some 1 := by kernel_rfl
  cases hq : Tryd.prog.info? 5 with
  | none => rw [hq] at hs; simp at hs
  | some i =>
    rw [hq] at hz hs hb
    simp at hz hs hb
    exact ⟨i, rfl, hz, hs, hb⟩

/-- 'make([]byte, 16)'. -/
theorem make16 (w : World) : (Instr.makeSlice 73 (.int .i64 16) (.int .i64 16)).run Tryd.prog w = .ok (.slice (some ⟨w.heap.size, 0, none⟩) 16 16)
    (w.alloc (.cells #[.int .u8 0, .int .u8 0, .int .u8 0, .int .u8 0, .int .u8 0, .int .u8 0, .int .u8 0, .int .u8 0, .int .u8 0, .int .u8 0, .int .u8 0, .int .u8 0, .int .u8 0, .int .u8 0, .int .u8 0, .int .u8 0] 5)) := by
  obtain ⟨i, hi, hz, hs, hb⟩ := info_u8
  have hr := run_make (P := Tryd.prog) w 73 5 i _ Tryd.underlying73 hi hz .i64 .i64 16 16 (by omega) (by omega) (by rw [hb]; omega) (by omega)
  have e : madeCells (Value.int IntKind.u8 0).cells 16 = #[.int .u8 0, .int .u8 0, .int .u8 0, .int .u8 0, .int .u8 0, .int .u8 0, .int .u8 0, .int .u8 0, .int .u8 0, .int .u8 0, .int .u8 0, .int .u8 0, .int .u8 0, .int .u8 0, .int .u8 0, .int .u8 0] := by kernel_rfl
  rw [hs, show Int.toNat 16 * 1 = 16 from rfl, e] at hr
  exact hr

theorem bArr_world5 (w : World) (ip port k m : Nat) (hk : k < 4) : ((w.alloc (.cells (bArr ip port k) 5)).drewN m).setCell ⟨w.heap.size, 4 + k, none⟩ (.int .u8 (ipB ip k : Nat)) = (w.alloc (.cells (bArr ip port (k + 1)) 5)).drewN m := by
  have h : ((w.alloc (.cells (bArr ip port k) 5)).drewN m).heap[w.heap.size]? = some (.cells (bArr ip port k) 5 (0, 0)) := heap_alloc_new w _
  rw [setCell_eq_setRow _ _ (4 + k) _ _ _ _ h, bArr_set ip port k hk]
  exact congrArg (World.drewN · m) (World.setRow_alloc_new w _ _ _)
theorem bytes_conv5 (w : World) (ip : Nat) (hip : ip < 4294967296) (port : Nat) (hp : port ≤ 65535) (m : Nat) :
    (convert 73 9 (.slice (some ⟨w.heap.size, 0, none⟩) 16 16)).run Tryd.prog ((w.alloc (.cells (bArr ip port 4) 5)).drewN m) = .ok (.string ⟨(bytesL ip port).toArray⟩) ((w.alloc (.cells (bArr ip port 4) 5)).drewN m) := by
  refine run_convert_bytes_back (P := Tryd.prog) _ 73 9 5 ⟨w.heap.size, 0, none⟩ 16 (bytesL ip port) Tryd.underlying73 Tryd.underlying5 Tryd.underlying9 fun j hj => ?_
  have h : ((w.alloc (.cells (bArr ip port 4) 5)).drewN m).heap[w.heap.size]? = some (.cells (bArr ip port 4) 5 (0, 0)) := heap_alloc_new w _
  rw [show (⟨w.heap.size, 0, none⟩ : Addr).add j = ⟨w.heap.size, j, none⟩ by simp [Addr.add]; omega, cell_of_row _ _ j _ _ _ h, bytes_cells ip hip port hp]
  simp [hj]

theorem addrBytes_any (ip : Nat) (hip : ip < 4294967296) (port : Nat) (hp : port ≤ 65535) (w : World) : Calls Tryd.prog 21 #[.int .u32 ip, .int .i64 port] w fun e w' => e = .returned (.string ⟨(bytesL ip port).toArray⟩) ∧ Below w.heap.size w w' := by
  have hmk := make16 w
  go_enter Tryd.func21, Tryd.ntmps21
  go_wp2
  go_loopw [6] (fun i w' => ∃ k m : Nat, k ≤ 4 ∧ i = .int .i64 k ∧ w' = (w.alloc (.cells (bArr ip port k) 5)).drewN m) (fun i _ => 4 - (intOf i).toNat)
  case atStart => exact ⟨0, 0, by omega, rfl, rfl⟩
  case round =>
    obtain ⟨k, m, hk, rfl, rfl⟩ := hrel
    by_cases hlt : k < 4
    · have hg := bArr_get ip port k hlt
      have HQ := hide (show (ip : Int) / 2 ^ (24 - 8 * k) % 256 = ((ipB ip k : Nat) : Int) by unfold ipB; simp)
      go_wp2
      go_round
      case rel => exact ⟨k + 1, m, by omega, by go_num, by rw [HQ.out]; exact bArr_world5 w ip port k m hlt⟩
      case measure => simp [intOf]; omega
    · obtain rfl : k = 4 := by omega
      have hcv := bytes_conv5 w ip hip port hp m
      go_wp2
      go_ret
      exact ⟨rfl, below_drewN' ((Below.refl _ _).alloc (Nat.le_refl _) _) _⟩

/-- What AddrOf hands back. -/
def ofV : Option (Nat × Nat) → Value
  | none => .tuple #[.int .u32 0, .int .i64 0, .bool false]
  | some (ip, p) => .tuple #[.int .u32 ip, .int .i64 p, .bool true]

theorem ipR_step2 (s : ByteArray) (k : Nat) (hk : k < 4) : (ipR s k : Int) * 256 % 4294967296 + (byteAt s (4 + k) : Int) = ((ipR s (k + 1) : Nat) : Int) := by
  have h1 := ipR_lt s k
  have h2 := byteAt_lt s (4 + k)
  have h3 : ipR s k < 16777216 := Nat.lt_of_lt_of_le h1 (Nat.pow_le_pow_right (n := 256) (j := 3) (by decide) (by omega))
  show _ = ((ipR s k * 256 + byteAt s (4 + k) : Nat) : Int)
  omega

theorem addrOf_any (s : ByteArray) (w : World) : Calls Tryd.prog 23 #[.string s] w fun e w' => e = .returned (ofV (readR s)) ∧ Below w.heap.size w w' := by
  by_cases hs : s.size = 16
  · have b2 := byteAt_eq s 2 (by omega)
    have b3 := byteAt_eq s 3 (by omega)
    have l2 := byteAt_lt s 2
    have l3 := byteAt_lt s 3
    go_enter Tryd.func23, Tryd.ntmps23
    go_wp2
    go_quiet (fail)
    go_wp2
    go_loopw [7, 6] (fun i x w' => ∃ k m : Nat, k ≤ 4 ∧ i = .int .i64 (4 + (k : Int)) ∧ x = .int .u32 (ipR s k) ∧ w' = w.drewN m) (fun i _ _ => 8 - (intOf i).toNat)
    case atStart => exact ⟨0, nq, by omega, rfl, rfl, rfl⟩
    case round =>
      obtain ⟨k, m, hk, rfl, rfl, rfl⟩ := hrel
      by_cases hlt : k < 4
      · have bk := byteAt_eq s (4 + k) (by omega)
        have lk := byteAt_lt s (4 + k)
        have HQ := hide (ipR_step2 s k hlt)
        have lt4 : (4 : Int) + k < 8 := by omega
        go_wp2
        go_round
        case rel => exact ⟨k + 1, m, by omega, by go_num, by rw [HQ.out], rfl⟩
        case measure => simp [intOf]; omega
      · obtain rfl : k = 4 := by omega
        have hp : byteAt s 2 * 256 + byteAt s 3 ≤ 65535 := by omega
        have hi : ipR s 4 < 4294967296 := ipR_lt s 4
        have HC : ∀ V, Calls Tryd.prog 21 #[.int .u32 (ipR s 4), .int .i64 (256 * (byteAt s 2 : Int) + (byteAt s 3 : Int))] V fun e w' => e = .returned (.string ⟨(bytesL (ipR s 4) (portOf s)).toArray⟩) ∧ Below V.heap.size V w' := fun V => by
          have h := addrBytes_any (ipR s 4) hi (portOf s) hp V
          rw [show ((portOf s : Nat) : Int) = 256 * (byteAt s 2 : Int) + (byteAt s 3 : Int) by unfold portOf; omega] at h
          exact h
        by_cases he : bytesL (ipR s 4) (portOf s) = s.data.toList
        · have HV := hide (show ofV (readR s) = .tuple #[.int .u32 (ipR s 4), .int .i64 (portOf s), .bool true] by unfold readR; rw [if_pos ⟨hs, he⟩]; rfl)
          have HP := hide (show ((portOf s : Nat) : Int) = 256 * (byteAt s 2 : Int) + (byteAt s 3 : Int) by unfold portOf; omega)
          have hc : (bytesL (ipR s 4) (portOf s) == s.toList) = true := by rw [Lib.toList_data, beq_iff_eq]; exact he
          clear he
          go_wp2_with (go_at_call 21; refine (HC _).mono ?_; rintro e W ⟨rfl, hW⟩)
          go_ret3
          exact ⟨by rw [HV.out, HP.out]; rfl, Below.trans (below_drewN' (Below.refl _ _) m) hW⟩
        · have HV := hide (show ofV (readR s) = .tuple #[.int .u32 0, .int .i64 0, .bool false] by unfold readR; rw [if_neg (fun h => he h.2)]; rfl)
          have hc : (bytesL (ipR s 4) (portOf s) == s.toList) = false := by rw [Lib.toList_data, beq_eq_false_iff_ne]; exact he
          clear he
          go_wp2_with (go_at_call 21; refine (HC _).mono ?_; rintro e W ⟨rfl, hW⟩)
          go_ret3
          exact ⟨by rw [HV.out]; rfl, Below.trans (below_drewN' (Below.refl _ _) m) hW⟩
  · have HV := hide (show ofV (readR s) = .tuple #[.int .u32 0, .int .i64 0, .bool false] by unfold readR; rw [if_neg (fun h => hs h.1)]; rfl)
    have hb : ((s.size : Int) != 16) = true := by rw [bne_iff_ne]; omega
    go_enter Tryd.func23, Tryd.ntmps23
    go_wp2
    go_ret3
    exact ⟨by rw [HV.out]; rfl, Below.refl _ _⟩
end Go.Proofs.YtkeljbekbgabpaaDoor
