/- Text, Copy. -/
import Derived.Test.YtlpcjonklfnejaaMTopLaw
namespace Go.Proofs.Ytlpcjonklfnejaa
open Go.RowKit

/-- What Text answers, by what may be read: the error's number, the bytes. -/
def textP (p : Nat → Option Nat) (a : Nat) : Nat → Nat → List Nat → Nat × List Nat
  | 0, _, _ => (6, [])
  | f + 1, i, l => match p (addrI a i) with
    | none => (5, [])
    | some x => if x = 0 then (0, l) else textP p a f (i + 1) (l ++ [x])
def textV (r : Nat × List Nat) : Value := .tuple #[.string ⟨(bytesOf r.2).toArray⟩, if r.1 = 0 then .nilIface else .iface 98 (.int .i64 r.1)]

/-- The world with forty bytes of the call's own. -/
def TW (W : World) (f : Nat → Value) : World := W.alloc (.cells (VA 40 f) 121)
theorem TW_heap (W : World) (f : Nat → Value) : (TW W f).heap[W.heap.size]? = some (.cells (VA 40 f) 121 (0, 0)) := heap_alloc_new W _
theorem TW_isM {g : Nat} {m : MS} {W : World} (h : IsM g m W) (f : Nat → Value) : IsM g m (TW W f) := (heap_alloc_old W _ (h := (Array.getElem?_eq_some_iff.1 h).1)).trans h
theorem TW_cell (W : World) (f : Nat → Value) (i : Nat) (hi : i < 40) : (TW W f).cell? ⟨W.heap.size, i, none⟩ = some (f i) := by
  rw [cell_of_row _ _ i _ _ _ (TW_heap W f), VA_get 40 f i hi]
theorem TW_fro (W : World) (f : Nat → Value) (i : Nat) : (TW W f).frozen? ⟨W.heap.size, i, none⟩ = false := frozen_of_row _ _ i _ _ (TW_heap W f)
theorem TW_set (W : World) (f : Nat → Value) (i : Nat) (v : Value) : (TW W f).setCell ⟨W.heap.size, i, none⟩ v = TW W (updV f i v) := by
  rw [setCell_eq_setRow _ _ i _ _ _ _ (TW_heap W f), VA_set]
  exact World.setRow_alloc_new W _ _ _
theorem TW_below (W : World) (f : Nat → Value) : Below W.heap.size W (TW W f) := (Below.refl _ _).alloc (Nat.le_refl _) _
theorem zero40 : (#[.int .u8 0, .int .u8 0, .int .u8 0, .int .u8 0, .int .u8 0, .int .u8 0, .int .u8 0, .int .u8 0, .int .u8 0, .int .u8 0, .int .u8 0, .int .u8 0, .int .u8 0, .int .u8 0, .int .u8 0, .int .u8 0, .int .u8 0, .int .u8 0, .int .u8 0, .int .u8 0, .int .u8 0, .int .u8 0, .int .u8 0, .int .u8 0, .int .u8 0, .int .u8 0, .int .u8 0, .int .u8 0, .int .u8 0, .int .u8 0, .int .u8 0, .int .u8 0, .int .u8 0, .int .u8 0, .int .u8 0, .int .u8 0, .int .u8 0, .int .u8 0, .int .u8 0, .int .u8 0] : Array Value) = VA 40 (rowL []) := by
  rw [VA_eq]
  kernel_rfl
theorem conv_text (W : World) (l : List Nat) (hl : ∀ x ∈ l, x < 256) (h40 : l.length ≤ 40) : (convert 120 9 (.slice (some ⟨W.heap.size, 0, none⟩) l.length 40)).run Try.prog (TW W (rowL l)) = .ok (.string ⟨(bytesOf l).toArray⟩) (TW W (rowL l)) := by
  have hb : (bytesOf l).length = l.length := by unfold bytesOf; rw [List.length_map]
  have h := run_convert_bytes_back (P := Try.prog) (TW W (rowL l)) 120 9 5 ⟨W.heap.size, 0, none⟩ 40 (bytesOf l) Try.underlying120 Try.underlying5 Try.underlying9 fun j hj => by
    have hj' : j < l.length := by rw [hb] at hj; exact hj
    rw [show (⟨W.heap.size, 0, none⟩ : Addr).add j = ⟨W.heap.size, j, none⟩ by simp [Addr.add]; omega, TW_cell W _ j (by omega)]
    unfold rowL
    rw [bytesOf_get l j hj hj', List.getD_eq_getElem?_getD, List.getElem?_eq_getElem hj']
    have hx := hl _ (List.getElem_mem hj')
    rw [Option.getD_some, UInt8.toNat_ofNat', Nat.mod_eq_of_lt (show l[j] < 2 ^ 8 from hx)]
  rw [hb] at h
  exact h

/-- 'l[:i]'. -/
theorem slice_text (g i : Nat) (hi : i ≤ 40) (W : World) : (Instr.sliceAt 121 (.pointer (some ⟨g, 0, none⟩)) none (some (.int .i64 (i : Int))) none).run Try.prog W = .ok (.slice (some ⟨g, 0, none⟩) i 40) W := by
  have hal : Try.prog.arrayLen 121 = 40 := by kernel_rfl
  rw [run_sliceAt_array_h W 121 ⟨g, 0, none⟩ (by kernel_rfl) .i64 (i : Int) (by omega) (by rw [hal]; omega)]
  rw [hal, show Try.prog.elem 121 = 5 by kernel_rfl, Try.sizeOf5 W, Result.andThen_ok, Int.toNat_natCast]
  unfold slicedAt
  simp [Addr.add]
set_option maxRecDepth 20000 in
theorem text_any {g : Nat} {m : MS} {W : World} (hM : IsM g m W) (a : Nat) (_ha : a < 18446744073709551616) (hlt : ∀ x, m.byte x < 256) :
    Calls Try.prog 29 #[.pointer (some ⟨g, 0, none⟩), .int .u64 a] W fun e w' => e = .returned (textV (textP (peek m) a 41 0 [])) ∧ Below W.heap.size W w' := by
  have HLT := hide hlt
  have HM := hide hM
  clear _ha hlt hM
  obtain ⟨ai, hai⟩ : ∃ x : Int, x = (a : Int) := ⟨_, rfl⟩
  rw [← hai]
  have HAI := hide hai
  clear hai
  obtain ⟨R, hR⟩ : ∃ R, R = textP (peek m) a 41 0 [] := ⟨_, rfl⟩
  rw [← hR]
  replace hR := hide hR
  go_enter Try.func29, Try.ntmps29
  go_wp2_with fail
  rw [zero40]
  go_loopw [10] (fun I w' => ∃ (i : Nat) (l : List Nat), i ≤ 41 ∧ I = .int .i64 i ∧ w' = TW W (rowL l) ∧ Hid ((i ≤ 40 → l.length = i) ∧ l.length ≤ 40 ∧ textP (peek m) a (41 - i) i l = R ∧ ∀ x ∈ l, x < 256)) (fun I _ => 41 - (intOf I).toNat)
  case atStart => exact ⟨0, [], by omega, rfl, rfl, hide ⟨fun _ => rfl, by decide, hR.out.symm, fun x hx => by cases hx⟩⟩
  case round =>
    obtain ⟨i, l, hi, rfl, rfl, HG⟩ := hrel
    by_cases hlt : i < 41
    · obtain ⟨x, hx⟩ : ∃ x : Int, x = ((addrI a i : Nat) : Int) := ⟨_, rfl⟩
      have hw : IntKind.u64.wrap (ai + i) = x := by
        rw [IntKind.wrap_u64, HAI.out, hx]
        unfold addrI
        omega
      have HC := byte_isM (TW_isM HM.out (rowL l)) (addrI a i) (Nat.mod_lt _ (by decide))
      rw [← hx] at HC
      clear hx
      have hG := HG.out
      rw [show 41 - i = (41 - (i + 1)) + 1 by omega, textP] at hG
      cases hp : peek m (addrI a i) with
      | none =>
        rw [hp] at HC hG
        simp only [byteV] at HC hG
        replace hG := hide hG
        go_wp2_with (go_at_call 35; refine HC.mono ?_; rintro e w' ⟨rfl, hww⟩; rw [hww]; clear hww w')
        go_ret2
        exact ⟨by rw [← hG.out.2.2.1]; rfl, TW_below _ _⟩
      | some y =>
        have hy : y < 256 := by
          unfold peek at hp
          split at hp
          · rw [← Option.some.inj hp]; exact HLT.out _
          · cases hp
        rw [hp] at HC hG
        simp only [byteV] at HC hG
        by_cases h0 : y = 0
        · subst h0
          rw [if_pos rfl] at hG
          have hcv := conv_text W l hG.2.2.2 hG.2.1
          have hl : l.length = i := hG.1 (by omega)
          rw [hl] at hcv
          have hsl := slice_text W.heap.size i (by omega)
          replace hG := hide hG
          clear hl HG hp
          go_wp2_with (go_at_call 35; refine HC.mono ?_; rintro e w' ⟨rfl, hww⟩; rw [hww]; clear hww w')
          go_ret2
          exact ⟨by rw [← hG.out.2.2.1]; rfl, TW_below _ _⟩
        · rw [if_neg h0] at hG
          have d0 : ((y : Int) == 0) = false := by rw [beq_eq_false_iff_ne]; omega
          by_cases h40 : i < 40
          · have c1 := TW_cell W (rowL l) i h40
            have c2 := TW_fro W (rowL l)
            have c3 := TW_set W (rowL l) i (.int .u8 y)
            have HL := hide (show updV (rowL l) i (.int .u8 y) = rowL (l ++ [y]) by rw [← rowL_snoc, hG.1 (by omega)])
            have HN := hide (show ((i + 1 ≤ 40 → (l ++ [y]).length = i + 1) ∧ (l ++ [y]).length ≤ 40 ∧ textP (peek m) a (41 - (i + 1)) (i + 1) (l ++ [y]) = R ∧ ∀ x ∈ l ++ [y], x < 256) by
              have hl := hG.1 (by omega)
              refine ⟨fun _ => by rw [List.length_append, hl]; rfl, by rw [List.length_append, hl]; simp; omega, hG.2.2.1, fun x hx => ?_⟩
              rcases List.mem_append.1 hx with h | h
              · exact hG.2.2.2 x h
              · rw [List.mem_singleton.1 h]; exact hy)
            clear hG HG hp h0
            go_wp2_with (go_at_call 35; refine HC.mono ?_; rintro e w' ⟨rfl, hww⟩; rw [hww]; clear hww w')
            go_round
            case rel => exact ⟨i + 1, l ++ [y], by omega, by go_num, by rw [← HL.out], HN⟩
            case measure => simp [intOf]; omega
          · have HN := hide (show ((i + 1 ≤ 40 → l.length = i + 1) ∧ l.length ≤ 40 ∧ textP (peek m) a (41 - (i + 1)) (i + 1) l = R ∧ ∀ x ∈ l, x < 256) from ⟨fun h => by omega, hG.2.1, by
              have h := hG.2.2.1
              rw [show 41 - (i + 1) = 0 by omega, textP] at h ⊢
              exact h, hG.2.2.2⟩)
            clear hG HG hp h0
            go_wp2_with (go_at_call 35; refine HC.mono ?_; rintro e w' ⟨rfl, hww⟩; rw [hww]; clear hww w')
            go_round
            case rel => exact ⟨i + 1, l, by omega, by go_num, rfl, HN⟩
            case measure => simp [intOf]; omega
    · obtain rfl : i = 41 := by omega
      go_wp2
      go_ret2
      exact ⟨by rw [← HG.out.2.2.1]; rfl, TW_below _ _⟩
end Go.Proofs.Ytlpcjonklfnejaa
