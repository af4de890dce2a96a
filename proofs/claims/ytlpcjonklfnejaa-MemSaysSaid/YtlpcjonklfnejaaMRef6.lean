/- The document's Put. -/
import Derived.Test.YtlpcjonklfnejaaMRef5
namespace Go.Proofs.Ytlpcjonklfnejaa
open Go.RowKit
attribute [local go_sem] RW_drew RW_drewN RW_fro

def rgood (r : RS) (x : Nat) : Prop := x / 64 ≤ 7 ∧ r.is (x / 64) = 2
instance (r : RS) (x : Nat) : Decidable (rgood r x) := inferInstanceAs (Decidable (_ ∧ _))
theorem rgood_fits {r : RS} {a n : Nat} (ha : a < 18446744073709551616) (h : ∀ i, i < n → rgood r (addrI a i)) (h0 : 0 < n) : a + n ≤ 512 := by
  have h1 := (h 0 h0).1
  unfold addrI at h1
  rw [Nat.add_zero, Nat.mod_eq_of_lt ha] at h1
  rcases Nat.lt_or_ge 512 (a + n) with h2 | h2
  · have h3 := (h (512 - a) (by omega)).1
    unfold addrI at h3
    rw [show a + (512 - a) = 512 by omega] at h3
    exact absurd h3 (by decide)
  · exact h2

theorem rput_any {g : Nat} {r : RS} {W : World} (hM : IsR g r W) (a : Nat) (s : ByteArray) (ha : a < 18446744073709551616) (hs : s.size ≤ 1000) :
    Calls Try.prog 26 #[.pointer (some ⟨g, 0, none⟩), .int .u64 a, .string s] W fun e w' => W.grownBy w' (some g) ∧
      (((∀ i, i < s.size → rgood r (addrI a i)) ∧ e = .returned (.int .i64 0) ∧ IsR g (writeR r a s s.size) w') ∨ (¬ (∀ i, i < s.size → rgood r (addrI a i)) ∧ e = .returned (.int .i64 5) ∧ IsR g r w')) := by
  have HM := hide hM
  have HAA := hide ha
  obtain ⟨ai, hai⟩ : ∃ x : Int, x = (a : Int) := ⟨_, rfl⟩
  rw [← hai]
  have HAI := hide hai
  have hgl : g < W.heap.size := (Array.getElem?_eq_some_iff.1 hM).1
  obtain ⟨W1, hW1⟩ : ∃ W1, W1 = W.alloc (.cells (VA 780 (cellR r)) 41) := ⟨_, rfl⟩
  have hM1 : IsR g r W1 := by rw [hW1]; exact (heap_alloc_old W _ (h := hgl)).trans hM
  have hH1 := hide (show W1.heap[W.heap.size]? = some (.cells (VA 780 (cellR r)) 41 (0, 0)) by rw [hW1]; exact heap_alloc_new W _)
  have hG1 := hide (show W.grownBy W1 (some g) by rw [hW1]; exact ⟨rfl, rfl, rfl, by simp, fun j hj _ => heap_alloc_old W _ (h := hj)⟩)
  clear hai ha hM
  go_enter Try.func26, Try.ntmps26
  go_wp2_with (first
    | (refine wpList_load_row rfl 41 _ rfl g ?_ 41 (VA 780 (cellR r)) (0, 0) _ ?_ Try.underlying41 rfl (by rw [VA_size]; exact size_rmem) ?_; (· rfl); (· exact HM.out))
    | (refine wpList_store_row rfl 41 _ _ rfl W.heap.size (VA 780 (cellR r)) ?_ ?_ 41 Try.zeroCells41 ?_ (by rw [VA_size]; exact size_rmem) ?_ (VA_one _ _ (cellR_one r)) ?_; (· rfl); (· rfl); (· exact heap_alloc_new W _); (· (rw [VA_size]; kernel_rfl))))
  rw [World.setRow_alloc_new, ← hW1]
  replace hW1 := hide hW1
  obtain ⟨B, hB1, hBg⟩ : ∃ B : RB, B.W = W1 ∧ B.g = g := ⟨⟨W1, g, r, hM1⟩, rfl, rfl⟩
  have hst : W1 = RW B r 0 := by
    obtain ⟨BW, Bg, Br, Bok⟩ := B
    simp only at hB1 hBg
    subst hB1 hBg
    show BW = (BW.setRow Bg (VA 780 (cellR r))).drewN 0
    rw [show (BW.setRow Bg (VA 780 (cellR r))) = BW from setRow_self BW Bg _ _ _ hM1]
    rfl
  obtain ⟨h, hh⟩ : ∃ h, h = W.heap.size := ⟨_, rfl⟩
  have HHH0 := hide (show ∀ r' k, (RW B r' k).heap[h]? = some (.cells (VA 780 (cellR r)) 41 (0, 0)) from fun r' k => by
    have h1 := (RW_grown B r' k).block h (by rw [hB1, hh]; exact (Array.getElem?_eq_some_iff.1 hH1.out).1) (fun e => by have := Option.some.inj e; rw [hBg] at this; omega)
    rw [h1, hB1, hh]
    exact hH1.out)
  have HGR := hide (show ∀ r' k, W.grownBy (RW B r' k) (some B.g) from fun r' k => by
    have h1 := RW_grown B r' k
    rw [hB1] at h1
    rw [hBg] at h1 ⊢
    exact ⟨h1.os.trans hG1.out.os, h1.tape.trans hG1.out.tape, h1.output.trans hG1.out.output, Nat.le_trans hG1.out.size h1.size, fun j hj hne => (h1.block j (Nat.lt_of_lt_of_le hj hG1.out.size) hne).trans (hG1.out.block j hj hne)⟩)
  have HIS := hide (show ∀ r' k, IsR g r' (RW B r' k) from fun r' k => by rw [← hBg]; exact RW_isR B r' k)
  replace HGR := hide (show ∀ r' k, W.grownBy (RW B r' k) (some g) from fun r' k => by rw [← hBg]; exact HGR.out r' k)
  rw [hst, ← hBg, ← hh]
  replace hst := hide hst
  replace hB1 := hide hB1
  replace hh := hide hh
  replace hBg := hide hBg
  clear hM1 hgl HM
  go_loopw [8] (fun I w' => ∃ i k : Nat, i ≤ s.size ∧ I = .int .i64 i ∧ w' = RW B (writeR r a s i) k ∧ Hid (∀ j, j < i → rgood r (addrI a j))) (fun I _ => s.size - (intOf I).toNat)
  case atStart => exact ⟨0, 0, by omega, rfl, by rw [writeR_zero], hide fun j hj => by omega⟩
  case round =>
    obtain ⟨i, k, hi, rfl, rfl, HG⟩ := hrel
    by_cases hlt : i < s.size
    · obtain ⟨y, hy⟩ : ∃ y, y = addrI a i := ⟨_, rfl⟩
      obtain ⟨x, hx⟩ : ∃ x : Int, x = (y : Int) := ⟨_, rfl⟩
      have hw : IntKind.u64.wrap (ai + i) = x := by
        rw [IntKind.wrap_u64, HAI.out, hx, hy]
        unfold addrI
        omega
      have hylt : y < 18446744073709551616 := by rw [hy]; exact Nat.mod_lt _ (by decide)
      have HHH := hide (HHH0.out (writeR r a s i) k)
      have HY := hide hy
      clear hy
      by_cases hin : y / 64 ≤ 7
      · have c1 := RW_is B (writeR r a s i) k (y / 64) (by omega)
        have e1 : (writeR r a s i).is (y / 64) = r.is (y / 64) := rfl
        rw [e1] at c1
        clear e1
        have hy5 : y < 512 := by omega
        subst hx
        clear hylt
        by_cases h2 : r.is (y / 64) = 2
        · rw [h2] at c1
          have HG2 := hide (show ∀ j, j < i + 1 → rgood r (addrI a j) from fun j hj => by
            by_cases hj2 : j < i
            · exact HG.out j hj2
            · rw [show j = i by omega, ← HY.out]; exact ⟨hin, h2⟩)
          have hyy : y = a + i := by
            have h5 := rgood_fits HAA.out HG2.out (by omega)
            rw [HY.out]
            unfold addrI
            exact Nat.mod_eq_of_lt (by omega)
          have bb := byteAt_eq s i hlt
          have lb := byteAt_lt s i
          have c5 := fun k => RW_by B (writeR r a s i) k (y / 64) (y % 64) (by omega) (by omega)
          have c6 := fun k => RW_setBy B (writeR r a s i) k (y / 64) (y % 64) (byteAt s i)
          rw [show y / 64 * 64 + y % 64 = a + i by omega] at c6
          simp only [writeR_step] at c6
          have hii : (i : Int) < (s.size : Int) := by omega
          clear hyy h2
          go_wp2_with fail
          go_region
          go_wp2
          go_round
          case rel => exact ⟨i + 1, _, by omega, by go_num, rfl, HG2⟩
          case measure => simp [intOf]; omega
        · have HNG := hide (show ¬ rgood r (addrI a i) by rw [← HY.out]; exact fun e => h2 e.2)
          have d2 : ((r.is (y / 64) : Int) != 2) = true := by rw [bne_iff_ne]; omega
          go_wp2_with (first
            | (refine wpList_load_row rfl 41 _ rfl h ?_ 41 (VA 780 (cellR r)) (0, 0) _ ?_ Try.underlying41 rfl (by rw [VA_size]; exact size_rmem) ?_; (· rfl); (· exact HHH.out))
            | (refine wpList_store_row rfl 41 _ _ rfl B.g (VA 780 (cellR r)) ?_ ?_ 41 (VA 780 (cellR (writeR r a s i))) ?_ (by rw [VA_size]; exact size_rmem) (by rw [VA_size, VA_size]) (VA_one _ _ (cellR_one r)) ?_; (· rfl); (· rfl); (· exact RW_heap _ _ _)))
          go_ret
          exact ⟨by rw [RW_row]; exact HGR.out _ _, .inr ⟨fun h => HNG.out (h i hlt), rfl, by rw [RW_row]; exact HIS.out _ _⟩⟩
      · have HNG := hide (show ¬ rgood r (addrI a i) by rw [← HY.out]; exact fun e => hin e.1)
        subst hx
        obtain ⟨q, hq⟩ : ∃ q : Int, q = (y : Int) / 64 := ⟨_, rfl⟩
        have hwq : IntKind.u64.wrap ((y : Int) / 64) = q := by rw [IntKind.wrap_u64, hq]; omega
        have h7 : (7 : Int) < q := by omega
        clear hq hylt hin
        go_wp2_with (first
          | (refine wpList_load_row rfl 41 _ rfl h ?_ 41 (VA 780 (cellR r)) (0, 0) _ ?_ Try.underlying41 rfl (by rw [VA_size]; exact size_rmem) ?_; (· rfl); (· exact HHH.out))
          | (refine wpList_store_row rfl 41 _ _ rfl B.g (VA 780 (cellR r)) ?_ ?_ 41 (VA 780 (cellR (writeR r a s i))) ?_ (by rw [VA_size]; exact size_rmem) (by rw [VA_size, VA_size]) (VA_one _ _ (cellR_one r)) ?_; (· rfl); (· rfl); (· exact RW_heap _ _ _)))
        go_ret
        exact ⟨by rw [RW_row]; exact HGR.out _ _, .inr ⟨fun h => HNG.out (h i hlt), rfl, by rw [RW_row]; exact HIS.out _ _⟩⟩
    · obtain rfl : i = s.size := by omega
      go_wp2
      go_ret
      exact ⟨HGR.out _ _, .inl ⟨HG.out, rfl, HIS.out _ _⟩⟩
end Go.Proofs.Ytlpcjonklfnejaa
