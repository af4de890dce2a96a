/- readInsn. -/
import Derived.Test.YtlpcjonklfnejaaBSame
import Derived.Test.YtlpcjonklfnejaaByteAt
namespace Go.Proofs.Ytlpcjonklfnejaa
open Go.RowKit

/-- The number of the first i of four bytes from o on, the lowest first. -/
def kTo (s : ByteArray) (o : Nat) : Nat → Nat
  | 0 => 0
  | i + 1 => kTo s o i + byteAt s (o + i) * 256 ^ i
theorem kTo_lt (s : ByteArray) (o : Nat) : ∀ i, kTo s o i < 256 ^ i
  | 0 => Nat.one_pos
  | i + 1 => by
    have h1 := kTo_lt s o i
    have h2 := byteAt_lt s (o + i)
    rw [kTo, Nat.pow_succ]
    have h3 : byteAt s (o + i) * 256 ^ i ≤ 255 * 256 ^ i := Nat.mul_le_mul_right _ (by omega)
    omega
/-- The instruction whose bytes lie from o on. -/
def insAt (s : ByteArray) (o : Nat) : IN := ⟨byteAt s o, byteAt s (o + 2), byteAt s (o + 3), kTo s (o + 4) 4⟩
theorem or_disjoint (a b i : Nat) (ha : a < 2 ^ i) : a ||| b * 2 ^ i = a + b * 2 ^ i := by
  have h := Nat.shiftLeft_add_eq_or_of_lt ha b
  rw [Nat.shiftLeft_eq] at h
  rw [Nat.or_comm, ← h]
  omega
theorem u32_or_at (a b i : Nat) (ha : a < 2 ^ i) (h : a + b * 2 ^ i < 4294967296) : bits .or .u32 (a : Int) ((b * 2 ^ i : Nat) : Int) = ((a + b * 2 ^ i : Nat) : Int) := by
  rw [u32_or_nat _ _ (by omega) (by omega), or_disjoint a b i ha]

abbrev insC (a b c k : Nat) : Array Value := #[.int .i64 a, .int .i64 b, .int .i64 c, .int .u32 k]
theorem size_ins : (Try.prog.info? 78).map (·.size) = some 4 := by kernel_rfl

theorem set_ins (w : World) (o : Obj) (a b c k k' : Value) (m : Nat) : (((w.alloc o).alloc (.cells #[a, b, c, k] 78)).drewN m).setCell ⟨w.heap.size + 1, 3, none⟩ k' = ((w.alloc o).alloc (.cells #[a, b, c, k'] 78)).drewN m := by
  have h1 : (w.alloc o).heap.size = w.heap.size + 1 := by simp
  have hh : (((w.alloc o).alloc (.cells #[a, b, c, k] 78)).drewN m).heap[w.heap.size + 1]? = some (.cells #[a, b, c, k] 78 (0, 0)) := by
    have h := heap_alloc_new (w.alloc o) (.cells #[a, b, c, k] 78)
    rw [h1] at h
    exact h
  rw [setCell_eq_setRow _ _ 3 _ _ _ _ hh]
  have h := World.setRow_alloc_new (w.alloc o) #[a, b, c, k] #[a, b, c, k'] 78
  rw [h1] at h
  exact congrArg (World.drewN · m) h
theorem set_one (W : World) (g i : Nat) (v : Value) (cs : Array Value) (t : TypeId) (h : W.heap[g]? = some (.cells cs t (0, 0))) : (W.setCell ⟨g, i, none⟩ v).heap[g]? = some (.cells (cs.setIfInBounds i v) t (0, 0)) := by
  rw [setCell_eq_setRow _ _ i _ _ _ _ h]
  exact setRow_heap _ _ _ _ _ _ h
theorem set_four (W : World) (g : Nat) (a b c d a' b' c' d' : Value) (t : TypeId) (h : W.heap[g]? = some (.cells #[a, b, c, d] t (0, 0))) :
    ((((W.setCell ⟨g, 0, none⟩ a').setCell ⟨g, 1, none⟩ b').setCell ⟨g, 2, none⟩ c').setCell ⟨g, 3, none⟩ d').heap[g]? = some (.cells #[a', b', c', d'] t (0, 0)) :=
  set_one _ g 3 d' _ t (set_one _ g 2 c' _ t (set_one _ g 1 b' _ t (set_one W g 0 a' _ t h)))
theorem or_step (s : ByteArray) (i : Nat) (hi : i < 4) : bits .or .u32 (kTo s 4 i : Int) ((byteAt s (4 + i) : Int) * ((256 ^ i : Nat) : Int)) = (kTo s 4 (i + 1) : Int) := by
  have h1 := kTo_lt s 4 i
  have h2 := kTo_lt s 4 (i + 1)
  have h3 : 256 ^ (i + 1) ≤ 4294967296 := by
    have := Nat.pow_le_pow_right (n := 256) (by decide) (show i + 1 ≤ 4 by omega)
    exact this
  have e : 256 ^ i = 2 ^ (8 * i) := by rw [Nat.pow_mul]
  rw [kTo] at h2 ⊢
  rw [e] at h1 h2 ⊢
  rw [← Int.natCast_mul]
  exact u32_or_at _ _ _ h1 (by omega)

set_option maxRecDepth 20000 in
set_option maxHeartbeats 2000000 in
theorem readInsn_any (s : ByteArray) (hs : 8 ≤ s.size) (hm : s.size ≤ 1000000) (w : World) :
    Calls Try.prog 69 #[.string s] w fun e w' => e = .returned (insV (insAt s 0)) ∧ Below w.heap.size w w' := by
  have b0 := byteAt_eq s 0 (by omega)
  have b2 := byteAt_eq s 2 (by omega)
  have b3 := byteAt_eq s 3 (by omega)
  have l0 := byteAt_lt s 0
  have l2 := byteAt_lt s 2
  have l3 := byteAt_lt s 3
  obtain ⟨x0, hx0⟩ : ∃ x, x = byteAt s 0 := ⟨_, rfl⟩
  obtain ⟨x2, hx2⟩ : ∃ x, x = byteAt s 2 := ⟨_, rfl⟩
  obtain ⟨x3, hx3⟩ : ∃ x, x = byteAt s 3 := ⟨_, rfl⟩
  rw [← hx0] at b0 l0
  rw [← hx2] at b2 l2
  rw [← hx3] at b3 l3
  replace hx0 := hide hx0
  replace hx2 := hide hx2
  replace hx3 := hide hx3
  go_enter Try.func69, Try.ntmps69
  go_wp2_with fail
  go_region
  go_wp2
  go_loopw [15] (fun I wr => ∃ i m : Nat, i ≤ 4 ∧ I = .int .i64 i ∧ wr = ((w.alloc (.cells #[.int .i64 0, .int .i64 0, .int .i64 0, .int .u32 0] 78)).alloc (.cells #[.int .i64 x0, .int .i64 x2, .int .i64 x3, .int .u32 (kTo s 4 i)] 78)).drewN m) (fun I _ => 4 - (intOf I).toNat)
  case atStart => first | exact ⟨0, 0, by omega, rfl, rfl⟩ | exact ⟨0, 1, by omega, rfl, rfl⟩
  case round =>
    obtain ⟨i, m, hi, rfl, rfl⟩ := hrel
    have hcase : i = 0 ∨ i = 1 ∨ i = 2 ∨ i = 3 ∨ i = 4 := by omega
    rcases hcase with rfl | rfl | rfl | rfl | rfl
    · have b4 := byteAt_eq s 4 (by omega)
      have l4 := byteAt_lt s 4
      have HOR := hide (show bits .or .u32 (kTo s 4 0 : Int) ((byteAt s 4 : Int)) = (kTo s 4 1 : Int) by have h := or_step s 0 (by omega); simpa using h)
      go_wp2_with fail
      go_region
      rw [HOR.out, set_ins]
      go_wp2
      go_round
      case rel => exact ⟨0 + 1, m + 1, by omega, by go_num, rfl⟩
      case measure => simp [intOf]
    · have b4 := byteAt_eq s 5 (by omega)
      have l4 := byteAt_lt s 5
      have HOR := hide (show bits .or .u32 (kTo s 4 1 : Int) ((byteAt s 5 : Int) * 256) = (kTo s 4 2 : Int) by exact or_step s 1 (by omega))
      go_wp2_with fail
      go_region
      rw [HOR.out, set_ins]
      go_wp2
      go_round
      case rel => exact ⟨1 + 1, m + 1, by omega, by go_num, rfl⟩
      case measure => simp [intOf]
    · have b4 := byteAt_eq s 6 (by omega)
      have l4 := byteAt_lt s 6
      have HOR := hide (show bits .or .u32 (kTo s 4 2 : Int) ((byteAt s 6 : Int) * 65536) = (kTo s 4 3 : Int) by exact or_step s 2 (by omega))
      go_wp2_with fail
      go_region
      rw [HOR.out, set_ins]
      go_wp2
      go_round
      case rel => exact ⟨2 + 1, m + 1, by omega, by go_num, rfl⟩
      case measure => simp [intOf]
    · have b4 := byteAt_eq s 7 (by omega)
      have l4 := byteAt_lt s 7
      have HOR := hide (show bits .or .u32 (kTo s 4 3 : Int) ((byteAt s 7 : Int) * 16777216) = (kTo s 4 4 : Int) by exact or_step s 3 (by omega))
      go_wp2_with fail
      go_region
      rw [HOR.out, set_ins]
      go_wp2
      go_round
      case rel => exact ⟨3 + 1, m + 1, by omega, by go_num, rfl⟩
      case measure => simp [intOf]
    · have HE := hide (show insV (insAt s 0) = .agg #[.int .i64 x0, .int .i64 x2, .int .i64 x3, .int .u32 (kTo s 4 4)] by rw [hx0.out, hx2.out, hx3.out]; rfl)
      go_wp2
      refine bodyPost_ret (results_cell_row rfl _ _ w.heap.size 78 #[.int .i64 x0, .int .i64 x2, .int .i64 x3, .int .u32 (kTo s 4 4)] (0, 0) _ rfl ?_ Try.underlying78 rfl size_ins) rfl ⟨?_, ?_⟩
      · exact set_four _ _ _ _ _ _ _ _ _ _ _ (heap_alloc_before w _ _)
      · rw [HE.out]
      · exact ((((below_drewN' (below_next (box_below w _) (box_below _ _)) m).setCell (Nat.le_refl _) _).setCell (Nat.le_refl _) _).setCell (Nat.le_refl _) _).setCell (Nat.le_refl _) _
end Go.Proofs.Ytlpcjonklfnejaa
