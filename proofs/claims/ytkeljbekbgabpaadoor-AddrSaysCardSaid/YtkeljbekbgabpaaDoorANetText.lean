/- The document's text of a net. -/
import Derived.Test.YtkeljbekbgabpaaDoorADigits
import Derived.Test.YtkeljbekbgabpaaDoorAText
import Derived.Deep.RegionWith
namespace Go.Proofs.YtkeljbekbgabpaaDoor
open Go.RowKit Go.Sort

theorem u64_and255 (x : Nat) (hx : x < 4294967296) : bits .and .u64 (x : Int) 255 = ((x % 256 : Nat) : Int) := by
  rw [show (255 : Int) = ((255 : Nat) : Int) from rfl, u64_and_nat x 255 (by omega) (by decide)]
  exact congrArg _ (Nat.and_two_pow_sub_one_eq_mod x 8)

/-- What is kept of the world: the net in its block. -/
def BX (w : World) (ip : Nat) (b lo hi : Int) (V : World) : Prop := Below w.heap.size w V ∧ V.heap[w.heap.size]? = some (.cells #[.int .u32 ip, .int .i64 b, .int .i64 lo, .int .i64 hi] 39 (0, 0))
theorem BX.start (w : World) (ip : Nat) (b lo hi : Int) : BX w ip b lo hi (w.alloc (.cells #[.int .u32 ip, .int .i64 b, .int .i64 lo, .int .i64 hi] 39)) :=
  ⟨(Below.refl _ _).alloc (Nat.le_refl _) _, heap_alloc_new w _⟩
theorem BX.on {w : World} {ip : Nat} {b lo hi : Int} {V Y : World} (h : BX w ip b lo hi V) (hb : Below V.heap.size V Y) : BX w ip b lo hi Y :=
  ⟨h.1.trans (hb.mono h.1.size), (hb.block _ (Array.getElem?_eq_some_iff.1 h.2).1).trans h.2⟩
theorem BX.cells {w : World} {ip : Nat} {b lo hi : Int} {V : World} (h : BX w ip b lo hi V) : V.cell? ⟨w.heap.size, 0, none⟩ = some (.int .u32 ip) ∧ V.cell? ⟨w.heap.size, 1, none⟩ = some (.int .i64 b) ∧ V.cell? ⟨w.heap.size, 2, none⟩ = some (.int .i64 lo) ∧ V.cell? ⟨w.heap.size, 3, none⟩ = some (.int .i64 hi) :=
  ⟨cell_of_row _ _ 0 _ _ _ h.2, cell_of_row _ _ 1 _ _ _ h.2, cell_of_row _ _ 2 _ _ _ h.2, cell_of_row _ _ 3 _ _ _ h.2⟩

/-- The text of the first k numbers of the address. -/
def preK (ns : List Nat) : Nat → List UInt8
  | 0 => []
  | k + 1 => textK ns k

theorem and_byte (ip k : Nat) (hip : ip < 4294967296) : bits .and .u64 (IntKind.u64.wrap ((ip : Int) / 2 ^ (24 - 8 * k))) 255 = ((ipB ip k : Nat) : Int) := by
  have e : ((ip : Int) / 2 ^ (24 - 8 * k)) = ((ip / 2 ^ (24 - 8 * k) : Nat) : Int) := by simp
  have h1 : ip / 2 ^ (24 - 8 * k) ≤ ip := Nat.div_le_self _ _
  rw [e]
  unfold ipB
  generalize ip / 2 ^ (24 - 8 * k) = y at h1
  rw [IntKind.wrap_u64, show (y : Int) % 18446744073709551616 = y by omega, u64_and255 _ (by omega)]
theorem ipB_num (ip b lo hi k : Nat) (hip : ip < 4294967296) (hk : k < 4) : ipB ip k = (netNums ip b lo hi).getD k 0 := by
  rw [← numsK_end ip b lo hi hip]
  match k, hk with
  | 0, _ => rfl
  | 1, _ => rfl
  | 2, _ => rfl
  | 3, _ => rfl

theorem dots (j : Nat) (hj : j < 3) : signsL.getD j 0 = 46 := by
  match j, hj with
  | 0, _ => rfl
  | 1, _ => rfl
  | 2, _ => rfl
theorem nums_lt {ip b lo hi : Nat} (hf : faultOf ip b lo hi = 0) (hip : ip < 4294967296) (k : Nat) : (netNums ip b lo hi).getD k 0 < 100000 := by
  obtain ⟨h1, h2, _⟩ := fault_ok hf
  exact getD_lt (fun n hn => by
      simp only [netNums, List.mem_cons, List.not_mem_nil, or_false] at hn
      omega) k
theorem preK_len {ip b lo hi : Nat} (hf : faultOf ip b lo hi = 0) (hip : ip < 4294967296) (k : Nat) (hk : k ≤ 4) : (ByteArray.mk (preK (netNums ip b lo hi) k).toArray).size ≤ 6 * k := by
  match k, hk with
  | 0, _ => exact Nat.le_refl _
  | k + 1, hk =>
    have := textK_len (netNums ip b lo hi) rfl (nums_lt hf hip) k (by omega)
    show (textK _ k).toArray.size ≤ _
    rw [List.size_toArray]
    exact this

theorem digits_in (V : World) (n : Nat) (hn : n < 100000) : ∃ d : ByteArray, Hid (d = ⟨(Lib.decDigits n).toArray⟩) ∧ d.size ≤ 5 ∧ ∀ q os, Calls Tryd.prog 28 #[.int .u64 n] (grow (redrawn V q) os) fun e w'' => e = .returned (.string d) ∧ ∃ p : Regrown, w'' = grow (redrawn V p.d) p.os := by
  refine ⟨_, hide rfl, ?_, fun q os => Calls.regrown_of (digits_any n (by omega) _)⟩
  have := nDigits_le5 n hn
  rw [← Lib.decDigits_length] at this
  simpa [ByteArray.size] using this

theorem netText_any (ip : Nat) (hip : ip < 4294967296) (b lo hi : Nat) (hf : faultOf ip b lo hi = 0) (w : World) :
    Calls Tryd.prog 15 #[netV ip b lo hi] w fun e w' => e = .returned (.string ⟨(netText ip b lo hi).toArray⟩) ∧ Below w.heap.size w w' := by
  have HS := hide (BX.start w ip b lo hi)
  have HF := hide hf
  clear hf
  go_enter Tryd.func15, Tryd.ntmps15
  go_wp2
  go_loopw [3, 4] (fun s i w' => ∃ (k : Nat) (t : ByteArray), k ≤ 4 ∧ i = .int .i64 k ∧ s = .string t ∧ t.size ≤ 100 ∧ Hid (t = ⟨(preK (netNums ip b lo hi) k).toArray⟩) ∧ Hid (BX w ip b lo hi w')) (fun _ i _ => 4 - (intOf i).toNat)
  case atStart => exact ⟨0, ⟨#[]⟩, by omega, rfl, rfl, by decide, hide rfl, HS⟩
  case round =>
    obtain ⟨k, t, hk, rfl, rfl, ht, HT, HB⟩ := hrel
    obtain ⟨c0, c1, c2, c3⟩ := HB.out.cells
    by_cases hlt : k < 4
    · have hbits := and_byte ip k hip
      have ld := ipB_lt ip k
      obtain ⟨n, hn⟩ : ∃ n, n = ipB ip k := ⟨_, rfl⟩
      rw [← hn] at hbits ld
      obtain ⟨dk, hdk⟩ : ∃ d : ByteArray, d = ⟨(Lib.decDigits n).toArray⟩ := ⟨_, rfl⟩
      have ldk : dk.size ≤ 5 := by have := nDigits_le5 n (by omega); rw [← Lib.decDigits_length] at this; rw [hdk]; simpa [ByteArray.size] using this
      have HD : ∀ V, Calls Tryd.prog 28 #[.int .u64 n] V fun e w' => e = .returned (.string dk) ∧ Below V.heap.size V w' := fun V => (digits_any n (by omega) V).mono fun e w' h => by rw [← hdk] at h; exact h
      have HN := hide (show n = (netNums ip b lo hi).getD k 0 by rw [hn]; exact ipB_num ip b lo hi k hip hlt)
      have HDK := hide hdk
      clear hn hdk
      by_cases hz : 0 < k
      · go_wp2_with (go_at_call 28; refine (HD _).mono ?_; rintro e V ⟨rfl, hV⟩)
        go_round
        case rel =>
          refine ⟨k + 1, _, by omega, by go_num, rfl, ?_, hide ?_, hide (HB.out.on hV)⟩
          · rw [ByteArray.size_append, ByteArray.size_append]
            have h3 : (ByteArray.mk #[46]).size = 1 := rfl
            have h4 : t.size ≤ 6 * k := by rw [HT.out]; exact preK_len HF.out hip k hk
            omega
          · rw [HT.out, HDK.out, HN.out]
            obtain ⟨j, rfl⟩ : ∃ j, k = j + 1 := ⟨k - 1, by omega⟩
            apply ByteArray.ext
            rw [show preK (netNums ip b lo hi) (j + 1 + 1) = textK (netNums ip b lo hi) (j + 1) from rfl, textK_succ _ rfl j (by omega), show preK (netNums ip b lo hi) (j + 1) = textK (netNums ip b lo hi) j from rfl, show signsL.getD j 0 = 46 from dots j (by omega)]
            simp [ByteArray.data_append]
        case measure => simp [intOf]; omega
      · obtain rfl : k = 0 := by omega
        have hb0 : bits .and .u64 ((ip : Int) / 16777216) 255 = (n : Int) := by
          have h2 : IntKind.u64.wrap ((ip : Int) / 16777216) = (ip : Int) / 16777216 := by rw [IntKind.wrap_u64]; omega
          rw [← h2]
          simpa using hbits
        clear hbits
        go_wp2_with (go_at_call 28; refine (HD _).mono ?_; rintro e V ⟨rfl, hV⟩)
        go_round
        case rel =>
          refine ⟨1, _, by omega, by go_num, rfl, ?_, hide ?_, hide (HB.out.on hV)⟩
          · rw [ByteArray.size_append]
            have h4 : t.size ≤ 6 * 0 := by rw [HT.out]; exact preK_len HF.out hip 0 hk
            omega
          · rw [HT.out, HDK.out, HN.out]
            apply ByteArray.ext
            rw [show preK (netNums ip b lo hi) 1 = textK (netNums ip b lo hi) 0 from rfl, textK_zero _ rfl]
            simp [ByteArray.data_append, preK]
        case measure => simp [intOf]
    · obtain rfl : k = 4 := by omega
      have h4 : t.size ≤ 6 * 4 := by rw [HT.out]; exact preK_len HF.out hip 4 hk
      obtain ⟨q1, q2, _⟩ := fault_ok HF.out
      have wb : IntKind.u64.wrap (b : Int) = b := by rw [IntKind.wrap_u64]; omega
      have wl : IntKind.u64.wrap (lo : Int) = lo := by rw [IntKind.wrap_u64]; omega
      have wh : IntKind.u64.wrap (hi : Int) = hi := by rw [IntKind.wrap_u64]; omega
      obtain ⟨dB, HDB, lB, cB⟩ := digits_in wr b (by omega)
      obtain ⟨dL, HDL, lL, cL⟩ := digits_in wr lo (by omega)
      obtain ⟨dH, HDH, lH, cH⟩ := digits_in wr hi (by omega)
      have z1 : ¬ 9223372036854775807 < t.size + 1 := by omega
      have z2 : ¬ 9223372036854775807 < t.size + 1 + dB.size := by omega
      have z3 : ¬ 9223372036854775807 < t.size + 1 + dB.size + 1 := by omega
      have z4 : ¬ 9223372036854775807 < t.size + 1 + dB.size + 1 + dL.size := by omega
      have z5 : ¬ 9223372036854775807 < t.size + 1 + dB.size + 1 + dL.size + 1 := by omega
      have z6 : ¬ 9223372036854775807 < t.size + 1 + dB.size + 1 + dL.size + 1 + dH.size := by omega
      have g1 := cell_regrown c1
      have g2 := cell_regrown c2
      have g3 := cell_regrown c3
      clear h4 q1 q2 lB lL lH ht
      go_wp2
      refine wp_region_quiet_below (by kernel_rfl) (by kernel_rfl) ?_
      repeat (go_big_quiet_step (first | (go_at_call_of 28 (Value.int IntKind.u64 (b : Int)); exact cB _ _) | (go_at_call_of 28 (Value.int IntKind.u64 (lo : Int)); exact cL _ _) | (go_at_call_of 28 (Value.int IntKind.u64 (hi : Int)); exact cH _ _)))
      refine wpQuiet_nil ?_
      intro _ hw'
      obtain ⟨⟨dq, osq⟩, hw''⟩ := hw'
      subst hw''
      go_wp2
      go_ret
      refine ⟨?_, (HB.out.on (below_regrown _ _ _)).1⟩
      rw [← textK_all rfl, textK_succ _ rfl 5 (by omega), textK_succ _ rfl 4 (by omega), textK_succ _ rfl 3 (by omega)]
      show Ending.returned (Value.string (t ++ ⟨#[47]⟩ ++ dB ++ ⟨#[58]⟩ ++ dL ++ ⟨#[45]⟩ ++ dH)) = _
      rw [HT.out, HDB.out, HDL.out, HDH.out]
      congr 2
      apply ByteArray.ext
      simp [ByteArray.data_append, preK, signsL, netNums]
end Go.Proofs.YtkeljbekbgabpaaDoor
