/- The document's Seal. -/
import Derived.Test.YtklibmijiecbfaaGreatK2
import Derived.Deep.MidRow
import Derived.Shelf.Small.Strs
import Derived.Shelf.Small.Wraps
import Derived.Shelf.Strings.Prefix
import Derived.Test.YtklibmijiecbfaaGreatProg
import Derived.Test.YtklibmijiecbfaaGreatK1
import Derived.Lib.ItoaNum
import Derived.Lib.Bytealg
import Derived.Lib.IndexLaws
import Derived.Lib.AppendIntMem
import Derived.Lib.SmallJoins
import Derived.Laws.Strings3
import Derived.Lib.Slices
import Derived.Laws.BitsAllLaws
import Derived.Lib.Strings
import Derived.Lib.Walk
namespace Go.Proofs.YtklibmijiecbfaaGreat.Bp
end Go.Proofs.YtklibmijiecbfaaGreat.Bp
namespace Go.Proofs.YtklibmijiecbfaaGreat.Mm
open Go.Proofs.YtklibmijiecbfaaGreat.Bp
open Go.RowKit
def writeR (r : RS) (a : Nat) (s : ByteArray) (i : Nat) : RS := { r with by' := fun x => if a ≤ x ∧ x < a + i then byteAt s (x - a) else r.by' x }
theorem writeR_zero (r : RS) (a : Nat) (s : ByteArray) : writeR r a s 0 = r := by
 unfold writeR
 have : (fun x => if a ≤ x ∧ x < a + 0 then byteAt s (x - a) else r.by' x) = r.by' := by funext x; rw [if_neg (by omega)]
 rw [this]
theorem writeR_step (r : RS) (a : Nat) (s : ByteArray) (i : Nat) : setRB (writeR r a s i) (a + i) (byteAt s i) = writeR r a s (i + 1) := by
 unfold writeR setRB
 congr 1
 funext x
 by_cases h : x = a + i
 ·
  rw [if_pos h, if_pos (by omega), h, show a + i - a = i by omega]
 ·
  rw [if_neg h]
  show (if a ≤ x ∧ x < a + i then _ else _) = _
  by_cases h1 : a ≤ x ∧ x < a + i
  ·
   rw [if_pos h1, if_pos (by omega)]
  ·
   rw [if_neg h1, if_neg (by omega)]
def rsealS (r : RS) (q : Nat) (s : ByteArray) : RS := writeR (zeroTo (setIs r q 3) (q * 64) 64) (q * 64) s s.size

end Go.Proofs.YtklibmijiecbfaaGreat.Mm

/- The document's memory at an offset: Seal. -/
namespace Go.Proofs.YtklibmijiecbfaaGreat.Vr
open Go.RowKit Mm Bp
attribute [local go_sem] RW_drew RW_drewN RW_fro

theorem rseal_full (B : RB) (r : RS) (k : Nat) (s : ByteArray) (hs : s.size ≤ 64) (hall : ∀ n, 8 ≤ n → n < 12 → r.is n ≠ 0) :
  Calls Tryz.prog 100 #[.pointer (some ⟨B.g.g, B.g.o, none⟩), .string s] (RW B r k) fun e w' => e = .returned (.tuple #[.int .u64 0, .int .i64 9]) ∧ ∃ k', w' = RW B r k' := by
 have HB := hide hall
 clear hall
 go_enter Tryz.func100, Tryz.ntmps100
 go_wp2
 go_loopw [6] (fun N w' => ∃ n : Nat, 8 ≤ n ∧ n ≤ 12 ∧ N = .int .i64 n ∧ w' = RW B r k) (fun N _ => 12 - (intOf N).toNat)
 case atStart => exact ⟨8, by omega, by omega, rfl, rfl⟩
 case round =>
  obtain ⟨n, h8, h12, rfl, rfl⟩ := hrel
  by_cases hlt : n < 12
  ·
   have c1 := RW_is B r k n hlt
   have h1 : (0 : Int) < (r.is n : Int) := by have := HB.out n h8 hlt; omega
   go_wp2
   go_round
   case rel => exact ⟨n + 1, by omega, by omega, by go_num, trivial⟩
   case measure => simp [intOf]; omega
  ·
   obtain rfl : n = 12 := by omega
   go_wp2
   go_ret2
   exact ⟨rfl, k, rfl⟩
set_option maxRecDepth 20000 in
set_option maxHeartbeats 1000000 in
theorem rseal_ok (B : RB) (r : RS) (k q : Nat) (s : ByteArray) (hs : s.size ≤ 64) (hq8 : 8 ≤ q) (hq : q < 12) (hbef : ∀ n, 8 ≤ n → n < q → r.is n ≠ 0) (hrq : r.is q = 0) :
  Calls Tryz.prog 100 #[.pointer (some ⟨B.g.g, B.g.o, none⟩), .string s] (RW B r k) fun e w' => e = .returned (.tuple #[.int .u64 ((q * 64 : Nat) : Int), .int .i64 0]) ∧ ∃ k', w' = RW B (rsealS r q s) k' := by
 have HB := hide hbef
 have HR := hide hrq
 clear hbef hrq
 go_enter Tryz.func100, Tryz.ntmps100
 go_wp2
 go_loopw [6] (fun N w' => ∃ n : Nat, 8 ≤ n ∧ n ≤ q ∧ N = .int .i64 n ∧ w' = RW B r k) (fun N _ => 12 - (intOf N).toNat)
 case atStart => exact ⟨8, by omega, by omega, rfl, rfl⟩
 case round =>
  obtain ⟨n, h8, h12, rfl, rfl⟩ := hrel
  have c1 := RW_is B r k n (by omega)
  by_cases hlt : n < q
  ·
   have h1 : (0 : Int) < (r.is n : Int) := by have := HB.out n h8 hlt; omega
   go_wp2
   go_round
   case rel => exact ⟨n + 1, by omega, by omega, by go_num, trivial⟩
   case measure => simp [intOf]; omega
  ·
   obtain rfl : n = q := by omega
   rw [HR.out] at c1
   have c3 : (RW B r k).setCell ⟨B.g.g, B.g.o + n, none⟩ (.int .i64 3) = RW B (setIs r n 3) k := RW_setIs B r k n 3 (by omega)
   go_wp2_with (refine wpList_zero_page rfl _ _ rfl B (setIs r n 3) k n (by omega) ?_ ?_ ?_; (· rfl); (· rfl))
   obtain ⟨r1, hr1⟩ : ∃ r1, r1 = zeroTo (setIs r n 3) (n * 64) 64 := ⟨_, rfl⟩
   rw [← hr1]
   replace hr1 := hide hr1
   clear c1 c3
   go_loopw [7] (fun I w' => ∃ i k' : Nat, i ≤ s.size ∧ I = .int .i64 i ∧ w' = RW B (writeR r1 (n * 64) s i) k') (fun I _ => 64 - (intOf I).toNat)
   case atStart => exact ⟨0, k, by omega, rfl, by rw [writeR_zero]⟩
   case round =>
    obtain ⟨i, k1, hi, rfl, rfl⟩ := hrel
    by_cases hi2 : i < s.size
    ·
     have bb := byteAt_eq s i hi2
     have lb := byteAt_lt s i
     have c5 := fun k => RW_by B (writeR r1 (n * 64) s i) k n i (by omega) (by omega)
     have c6 := fun k => RW_setBy B (writeR r1 (n * 64) s i) k n i (byteAt s i) (by omega) (by omega)
     simp only [writeR_step] at c6
     have hii : (i : Int) < (s.size : Int) := by omega
     have hi64 : (i : Int) < 64 := by omega
     go_wp2_with fail
     go_region
     go_wp2
     go_round
     case rel => exact ⟨i + 1, _, by omega, by go_num, rfl⟩
     case measure => simp [intOf]; omega
    ·
     obtain rfl : i = s.size := by omega
     go_wp2
     go_ret2
     refine ⟨?_, k1, by rw [hr1.out]; rfl⟩
     congr 3
     simp
     omega
end Go.Proofs.YtklibmijiecbfaaGreat.Vr

/- The document's Put. -/
namespace Go.Proofs.YtklibmijiecbfaaGreat.Bp
end Go.Proofs.YtklibmijiecbfaaGreat.Bp
namespace Go.Proofs.YtklibmijiecbfaaGreat.Mm
open Go.Proofs.YtklibmijiecbfaaGreat.Bp
open Go.RowKit
def rgood (r : RS) (x : Nat) : Prop := x / 64 ≤ 7 ∧ r.is (x / 64) = 2
instance (r : RS) (x : Nat) : Decidable (rgood r x) := inferInstanceAs (Decidable (_ ∧ _))
theorem rgood_fits {r : RS} {a n : Nat} (ha : a < 18446744073709551616) (h : ∀ i, i < n → rgood r (addrI a i)) (h0 : 0 < n) : a + n ≤ 512 := by
 have h1 := (h 0 h0).1
 unfold addrI at h1
 rw [Nat.add_zero, Nat.mod_eq_of_lt ha] at h1
 rcases Nat.lt_or_ge 512 (a + n) with h2 | h2
 ·
  have h3 := (h (512 - a) (by omega)).1
  unfold addrI at h3
  rw [show a + (512 - a) = 512 by omega] at h3
  exact absurd h3 (by decide)
 ·
  exact h2

end Go.Proofs.YtklibmijiecbfaaGreat.Mm

/- The document's memory at an offset: Put. -/
namespace Go.Proofs.YtklibmijiecbfaaGreat.Vr
open Go.RowKit Mm Bp
attribute [local go_sem] RW_drew RW_drewN RW_fro

def ovr (f : Nat → Value) (o : Nat) (l : List Value) : Nat → Value := fun i => if o ≤ i ∧ i < o + l.length then l.getD (i - o) undef else f i
theorem ovr_VA (N g : Nat) (ty : TypeId) : ∀ (l : List Value) (o : Nat) (f : Nat → Value) (W : World), W.heap[g]? = some (.cells (VA N f) ty (0, 0)) → W.setCells g o l = W.setRow g (VA N (ovr f o l))
 | [], o, f, W, h => by
  rw [show ovr f o [] = f by funext i; unfold ovr; rw [if_neg (by simp only [List.length_nil]; omega)]]
  exact (setRow_self W g _ _ _ h).symm
 | x :: r, o, f, W, h => by
  rw [World.setCells, setCell_eq_setRow _ _ _ _ _ _ _ h, VA_set, ovr_VA N g ty r (o + 1) (updV f o x) _ (setRow_heap _ _ _ _ _ _ h), setRow_again _ _ _ _ _ _ h]
  congr 2
  funext i
  unfold ovr updV
  by_cases h1 : i = o
  ·
   subst h1
   rw [if_neg (by omega), if_pos rfl, if_pos (by simp), Nat.sub_self]
   rfl
  ·
   by_cases h2 : o + 1 ≤ i ∧ i < o + 1 + r.length
   ·
    rw [if_pos h2, if_pos (by rw [List.length_cons]; omega), show i - o = (i - (o + 1)) + 1 by omega, List.getD_cons_succ]
   ·
    rw [if_neg h2, if_neg h1, if_neg (by rw [List.length_cons]; omega)]
theorem IsR.range {g : LY} {r : RS} {W : World} (h : IsR g r W) : W.rangeAt g.g g.o (VA 780 (cellR r)).toList := fun j v hv => by
 have hj : j < 780 := by have := (List.getElem?_eq_some_iff.1 hv).1; rwa [Array.length_toList, VA_size] at this
 have hf := g.fit
 rw [Array.getElem?_toList, VA_get _ _ _ hj] at hv
 rw [cell_of_row _ _ _ _ _ _ h, VA_get _ _ _ (by omega), lay_in _ _ _ hj]
 exact hv
theorem RW_all (B : RB) (r r' : RS) (k : Nat) : (RW B r' k).setCells B.g.g B.g.o (VA 780 (cellR r)).toList = RW B r k := by
 rw [ovr_VA B.g.N B.g.g B.g.ty _ _ _ _ (RW_heap B r' k), show VA B.g.N (ovr (lay B.g r') B.g.o (VA 780 (cellR r)).toList) = VA B.g.N (lay B.g r) from VA_congr _ _ _ fun i _ => ?_, RW_row]
 have hl : (VA 780 (cellR r)).toList.length = 780 := by rw [Array.length_toList, VA_size]
 unfold ovr lay
 rw [hl]
 by_cases hin : B.g.o ≤ i ∧ i < B.g.o + 780
 ·
  rw [if_pos hin, if_pos hin, List.getD_eq_getElem?_getD, Array.getElem?_toList, VA_get _ _ _ (by omega)]
  rfl
 ·
  rw [if_neg hin, if_neg hin, if_neg hin]
theorem rput_any {g : LY} {r : RS} {W : World} (hM : IsR g r W) (a : Nat) (s : ByteArray) (ha : a < 18446744073709551616) (hs : s.size ≤ 1000) :
  Calls Tryz.prog 36 #[.pointer (some ⟨g.g, g.o, none⟩), .int .u64 a, .string s] W fun e w' => W.grownBy w' (some g.g) ∧
   (((∀ i, i < s.size → rgood r (addrI a i)) ∧ e = .returned (.int .i64 0) ∧ IsR g (writeR r a s s.size) w') ∨ (¬ (∀ i, i < s.size → rgood r (addrI a i)) ∧ e = .returned (.int .i64 5) ∧ IsR g r w')) := by
 have HM := hide hM
 have HAA := hide ha
 obtain ⟨ai, hai⟩ : ∃ x : Int, x = (a : Int) := ⟨_, rfl⟩
 rw [← hai]
 have HAI := hide hai
 have hgl : g.g < W.heap.size := (Array.getElem?_eq_some_iff.1 hM).1
 obtain ⟨W1, hW1⟩ : ∃ W1, W1 = W.alloc (.cells (VA 780 (cellR r)) 88) := ⟨_, rfl⟩
 have hM1 : IsR g r W1 := by rw [hW1]; exact (heap_alloc_old W _ (h := hgl)).trans hM
 have hH1 := hide (show W1.heap[W.heap.size]? = some (.cells (VA 780 (cellR r)) 88 (0, 0)) by rw [hW1]; exact heap_alloc_new W _)
 have hG1 := hide (show W.grownBy W1 (some g.g) by rw [hW1]; exact ⟨rfl, rfl, rfl, by simp, fun j hj _ => heap_alloc_old W _ (h := hj)⟩)
 clear hai ha hM
 go_enter Tryz.func36, Tryz.ntmps36
 go_wp2_with (first
  | (refine wpList_load_mid rfl 88 _ rfl g.g g.o rfl (VA 780 (cellR r)).toList _ (IsR.range HM.out) Tryz.underlying88 rfl (by rw [Array.length_toList, VA_size]; exact size_rmem) ?_; rw [Array.toArray_toList])
  | (refine wpList_store_row rfl 88 _ _ rfl W.heap.size (VA 780 (cellR r)) ?_ ?_ 88 Tryz.zeroCells88 ?_ (by rw [VA_size]; exact size_rmem) ?_ (VA_one _ _ (cellR_one r)) ?_; (· rfl); (· rfl); (· exact heap_alloc_new W _); (· (rw [VA_size]; kernel_rfl))))
 rw [World.setRow_alloc_new, ← hW1]
 replace hW1 := hide hW1
 obtain ⟨B, hB1, hBg⟩ : ∃ B : RB, B.W = W1 ∧ B.g = g := ⟨⟨W1, g, r, hM1⟩, rfl, rfl⟩
 have hst : W1 = RW B r 0 := by
  obtain ⟨BW, Bg, Br, Bok⟩ := B
  simp only at hB1 hBg
  subst hB1 hBg
  show BW = (BW.setRow Bg.g (VA Bg.N (lay Bg r))).drewN 0
  rw [show (BW.setRow Bg.g (VA Bg.N (lay Bg r))) = BW from setRow_self BW Bg.g _ _ _ hM1]
  rfl
 obtain ⟨h, hh⟩ : ∃ h, h = W.heap.size := ⟨_, rfl⟩
 have HHH0 := hide (show ∀ r' k, (RW B r' k).heap[h]? = some (.cells (VA 780 (cellR r)) 88 (0, 0)) from fun r' k => by
  have h1 := (RW_grown B r' k).block h (by rw [hB1, hh]; exact (Array.getElem?_eq_some_iff.1 hH1.out).1) (fun e => by have := Option.some.inj e; rw [hBg] at this; omega)
  rw [h1, hB1, hh]
  exact hH1.out)
 have HGR := hide (show ∀ r' k, W.grownBy (RW B r' k) (some B.g.g) from fun r' k => by
  have h1 := RW_grown B r' k
  rw [hB1] at h1
  rw [hBg] at h1 ⊢
  exact ⟨h1.os.trans hG1.out.os, h1.tape.trans hG1.out.tape, h1.output.trans hG1.out.output, Nat.le_trans hG1.out.size h1.size, fun j hj hne => (h1.block j (Nat.lt_of_lt_of_le hj hG1.out.size) hne).trans (hG1.out.block j hj hne)⟩)
 have HIS := hide (show ∀ r' k, IsR g r' (RW B r' k) from fun r' k => by rw [← hBg]; exact RW_isR B r' k)
 replace HGR := hide (show ∀ r' k, W.grownBy (RW B r' k) (some g.g) from fun r' k => by rw [← hBg]; exact HGR.out r' k)
 rw [hst, ← hBg, ← hh]
 replace hst := hide hst
 replace hB1 := hide hB1
 replace hh := hide hh
 replace hBg := hide hBg
 clear hM1 hgl HM
 go_loopw [8] (fun I w' => ∃ i k : Nat, i ≤ s.size ∧ I = .int .i64 i ∧ w' = RW B (writeR r a s i) k ∧ Hid (∀ j, j < i → rgood r (addrI a j))) (fun I _ => s.size - (intOf I).toNat)
 case atStart => exact ⟨0, 0, by omega, rfl, by rw [writeR_zero], hide fun j hj => by omega⟩
 case round =>
  obtain ⟨i, k, hi, rfl, rfl, HG⟩ := hrel
  by_cases hlt : i < s.size
  ·
   obtain ⟨y, hy⟩ : ∃ y, y = addrI a i := ⟨_, rfl⟩
   obtain ⟨x, hx⟩ : ∃ x : Int, x = (y : Int) := ⟨_, rfl⟩
   have hw : IntKind.u64.wrap (ai + i) = x := by
    rw [IntKind.wrap_u64, HAI.out, hx, hy]
    unfold addrI
    omega
   have hylt : y < 18446744073709551616 := by rw [hy]; exact Nat.mod_lt _ (by decide)
   have HHH := hide (HHH0.out (writeR r a s i) k)
   have HY := hide hy
   clear hy
   by_cases hin : y / 64 ≤ 7
   ·
    have c1 := RW_is B (writeR r a s i) k (y / 64) (by omega)
    have e1 : (writeR r a s i).is (y / 64) = r.is (y / 64) := rfl
    rw [e1] at c1
    clear e1
    have hy5 : y < 512 := by omega
    subst hx
    clear hylt
    by_cases h2 : r.is (y / 64) = 2
    ·
     rw [h2] at c1
     have HG2 := hide (show ∀ j, j < i + 1 → rgood r (addrI a j) from fun j hj => by
      by_cases hj2 : j < i
      ·
       exact HG.out j hj2
      ·
       rw [show j = i by omega, ← HY.out]; exact ⟨hin, h2⟩)
     have hyy : y = a + i := by
      have h5 := rgood_fits HAA.out HG2.out (by omega)
      rw [HY.out]
      unfold addrI
      exact Nat.mod_eq_of_lt (by omega)
     have bb := byteAt_eq s i hlt
     have lb := byteAt_lt s i
     have c5 := fun k => RW_by B (writeR r a s i) k (y / 64) (y % 64) (by omega) (by omega)
     have c6 := fun k => RW_setBy B (writeR r a s i) k (y / 64) (y % 64) (byteAt s i) (by omega) (by omega)
     rw [show y / 64 * 64 + y % 64 = a + i by omega] at c6
     simp only [writeR_step] at c6
     have hii : (i : Int) < (s.size : Int) := by omega
     clear hyy h2
     go_wp2_with fail
     go_region
     go_wp2
     go_round
     case rel => exact ⟨i + 1, _, by omega, by go_num, rfl, HG2⟩
     case measure => simp [intOf]; omega
    ·
     have HNG := hide (show ¬ rgood r (addrI a i) by rw [← HY.out]; exact fun e => h2 e.2)
     have d2 : ((r.is (y / 64) : Int) != 2) = true := by rw [bne_iff_ne]; omega
     go_wp2_with (first
      | (refine wpList_load_row rfl 88 _ rfl h ?_ 88 (VA 780 (cellR r)) (0, 0) _ ?_ Tryz.underlying88 rfl (by rw [VA_size]; exact size_rmem) ?_; (· rfl); (· exact HHH.out))
      | (refine wpList_store_mid (P := Tryz.prog) rfl 88 _ _ rfl B.g.g B.g.o (VA 780 (cellR r)) ?_ ?_ (by intro j hj; rw [VA_size] at hj; exact ⟨by rw [RW_cell B _ _ _ hj]; rfl, RW_fro B _ _ _⟩) (by rw [VA_size]; exact size_rmem) (VA_one _ _ (cellR_one r)) ?_; (· rfl); (· rfl); rw [RW_all]))
     go_ret
     exact ⟨HGR.out _ _, .inr ⟨fun h => HNG.out (h i hlt), rfl, HIS.out _ _⟩⟩
   ·
    have HNG := hide (show ¬ rgood r (addrI a i) by rw [← HY.out]; exact fun e => hin e.1)
    subst hx
    obtain ⟨q, hq⟩ : ∃ q : Int, q = (y : Int) / 64 := ⟨_, rfl⟩
    have hwq : IntKind.u64.wrap ((y : Int) / 64) = q := by rw [IntKind.wrap_u64, hq]; omega
    have h7 : (7 : Int) < q := by omega
    clear hq hylt hin
    go_wp2_with (first
     | (refine wpList_load_row rfl 88 _ rfl h ?_ 88 (VA 780 (cellR r)) (0, 0) _ ?_ Tryz.underlying88 rfl (by rw [VA_size]; exact size_rmem) ?_; (· rfl); (· exact HHH.out))
     | (refine wpList_store_mid (P := Tryz.prog) rfl 88 _ _ rfl B.g.g B.g.o (VA 780 (cellR r)) ?_ ?_ (by intro j hj; rw [VA_size] at hj; exact ⟨by rw [RW_cell B _ _ _ hj]; rfl, RW_fro B _ _ _⟩) (by rw [VA_size]; exact size_rmem) (VA_one _ _ (cellR_one r)) ?_; (· rfl); (· rfl); rw [RW_all]))
    go_ret
    exact ⟨HGR.out _ _, .inr ⟨fun h => HNG.out (h i hlt), rfl, HIS.out _ _⟩⟩
  ·
   obtain rfl : i = s.size := by omega
   go_wp2
   go_ret
   exact ⟨HGR.out _ _, .inl ⟨HG.out, rfl, HIS.out _ _⟩⟩
end Go.Proofs.YtklibmijiecbfaaGreat.Vr

/- Memory and the document's memory, side by side: no walk in it. -/
namespace Go.Proofs.YtklibmijiecbfaaGreat.Bp
end Go.Proofs.YtklibmijiecbfaaGreat.Bp
namespace Go.Proofs.YtklibmijiecbfaaGreat.Mm
open Go.Proofs.YtklibmijiecbfaaGreat.Bp
open Go.RowKit

structure Rel (m : MS) (r : RS) : Prop where
 pg : ∀ n, n < 12 → (m.rd n = true ↔ r.is n ≠ 0)
 wr : ∀ n, n < 8 → (m.wt n = true ↔ r.is n = 2)
 wh : ∀ n, 8 ≤ n → n < 12 → m.wt n = false
 by' : ∀ a, a < 768 → m.rd (a / 64) = true → m.byte a = r.by' a
 no : ∀ a, a < 768 → m.rd (a / 64) = false → m.byte a = 0
 mb : ∀ x, m.byte x < 256
 rb : ∀ x, r.by' x < 256
def zeroR : RS := ⟨fun _ => 0, fun _ => 0⟩
theorem rel_zero : Rel zeroM zeroR := ⟨fun n _ => by simp [zeroM, zeroR], fun n _ => by simp [zeroM, zeroR], fun _ _ _ => rfl, fun _ _ _ => rfl, fun _ _ _ => rfl, fun _ => Nat.zero_lt_succ 255, fun _ => Nat.zero_lt_succ 255⟩
theorem rel_peek {m : MS} {r : RS} (h : Rel m r) : peek m = rpeek r := by
 funext a
 unfold peek rpeek
 by_cases ha : a < 768
 ·
  have hp := h.pg (a / 64) (by omega)
  by_cases hr : m.rd (a / 64) = true
  ·
   rw [if_pos ⟨ha, hr⟩, if_pos ⟨ha, hp.1 hr⟩, h.by' a ha hr]
  ·
   rw [if_neg (fun e => hr e.2), if_neg (fun e => hr (hp.2 e.2))]
 ·
  rw [if_neg (fun e => ha e.1), if_neg (fun e => ha e.1)]
theorem rel_cnt {m : MS} {r : RS} (h : Rel m r) : ∀ j, j ≤ 4 → cntM m j = cntR r j
 | 0, _ => rfl
 | j + 1, hj => by
  rw [cntM, cntR, rel_cnt h j (by omega)]
  have hp := h.pg (8 + j) (by omega)
  by_cases hr : m.rd (8 + j) = true
  ·
   rw [if_pos hr, if_neg (hp.1 hr)]
  ·
   rw [if_neg hr, if_pos (Classical.byContradiction fun e => hr (hp.2 e))]
theorem rel_good {m : MS} {r : RS} (h : Rel m r) (x : Nat) : goodM m x ↔ rgood r x := by
 unfold goodM rgood
 constructor
 ·
  rintro ⟨h1, h2⟩
  have h8 : x / 64 < 8 := by
   rcases Nat.lt_or_ge (x / 64) 8 with h3 | h3
   ·
    exact h3
   ·
    rw [h.wh _ h3 (by omega)] at h2; cases h2
  exact ⟨by omega, (h.wr _ h8).1 h2⟩
 ·
  rintro ⟨h1, h2⟩
  exact ⟨by omega, (h.wr _ (by omega)).2 h2⟩

theorem rel_map {m : MS} {r : RS} (h : Rel m r) (n : Nat) (hn : n < 8) (b : Bool) : Rel (setWt (setRd m n true) n b) (rmapS r n b) := by
 have his : ∀ k, (rmapS r n b).is k = if k = n then (if b then 2 else 1) else r.is k := fun k => by
  unfold rmapS setIs
  by_cases hk : k = n
  ·
   simp [hk]
  ·
   simp only [if_neg hk]
   split <;> rfl
 have hby : ∀ x, (rmapS r n b).by' x = if r.is n = 0 ∧ n * 64 ≤ x ∧ x < n * 64 + 64 then 0 else r.by' x := fun x => by
  unfold rmapS setIs
  by_cases h0 : r.is n = 0
  ·
   simp only [h0, if_true, true_and]
   rfl
  ·
   simp only [if_neg h0]
   rw [if_neg (fun e => h0 e.1)]
 have hrd : ∀ k, (setWt (setRd m n true) n b).rd k = if k = n then true else m.rd k := fun k => rfl
 have hwt : ∀ k, (setWt (setRd m n true) n b).wt k = if k = n then b else m.wt k := fun k => rfl
 have hbm : ∀ x, (setWt (setRd m n true) n b).byte x = m.byte x := fun x => rfl
 refine ⟨fun k hk => ?_, fun k hk => ?_, fun k h8 h12 => ?_, fun a ha hr => ?_, fun a ha hr => ?_, fun x => h.mb x, fun x => ?_⟩
 ·
  rw [hrd, his]
  by_cases e : k = n
  ·
   rw [if_pos e, if_pos e]; cases b <;> simp
  ·
   rw [if_neg e, if_neg e]; exact h.pg k hk
 ·
  rw [hwt, his]
  by_cases e : k = n
  ·
   rw [if_pos e, if_pos e]; cases b <;> simp
  ·
   rw [if_neg e, if_neg e]; exact h.wr k hk
 ·
  rw [hwt, if_neg (by omega)]; exact h.wh k h8 h12
 ·
  rw [hbm, hby]
  rw [hrd] at hr
  by_cases e : a / 64 = n
  ·
   by_cases h0 : r.is n = 0
   ·
    rw [if_pos ⟨h0, by omega, by omega⟩]
    refine h.no a ha ?_
    rw [e]
    cases hx : m.rd n with
    | false => rfl
    | true => exact absurd h0 ((h.pg n (by omega)).1 hx)
   ·
    rw [if_neg (fun x => h0 x.1)]
    refine h.by' a ha ?_
    rw [e]
    exact (h.pg n (by omega)).2 h0
  ·
   rw [if_neg e] at hr
   rw [if_neg (by omega)]
   exact h.by' a ha hr
 ·
  rw [hrd] at hr
  by_cases e : a / 64 = n
  ·
   rw [if_pos e] at hr; cases hr
  ·
   rw [if_neg e] at hr; rw [hbm]; exact h.no a ha hr
 ·
  rw [hby]
  split
  ·
   decide
  ·
   exact h.rb x
theorem drop_byte (m : MS) (q x : Nat) : (dropM m q).byte x = if q * 64 ≤ x ∧ x < q * 64 + 64 then 0 else m.byte x := by
 show (if q * 64 ≤ x ∧ x < q * 64 + Z64.length then (Z64.getD (x - q * 64) 0).toNat else m.byte x) = _
 rw [Z64_len]
 by_cases hx : q * 64 ≤ x ∧ x < q * 64 + 64
 ·
  rw [if_pos hx, if_pos hx]
  have hz : ∀ i, Z64.getD i 0 = 0 := fun i => by
   unfold Z64
   rw [List.getD_eq_getElem?_getD, List.getElem?_replicate]
   split <;> rfl
  rw [hz]
  rfl
 ·
  rw [if_neg hx, if_neg hx]
theorem rel_drop {m : MS} {r : RS} (h : Rel m r) (q : Nat) (_hq : q < 12) : Rel (dropM m q) (setIs r q 0) := by
 have hrd := drop_rd m q
 have hwt : ∀ k, (dropM m q).wt k = if k = q then false else m.wt k := fun k => rfl
 have his : ∀ k, (setIs r q 0).is k = if k = q then 0 else r.is k := fun k => rfl
 refine ⟨fun k hk => ?_, fun k hk => ?_, fun k h8 h12 => ?_, fun a ha hr => ?_, fun a ha hr => ?_, fun x => ?_, fun x => h.rb x⟩
 ·
  rw [hrd, his]
  by_cases e : k = q
  ·
   rw [if_pos e, if_pos e]; simp
  ·
   rw [if_neg e, if_neg e]; exact h.pg k hk
 ·
  rw [hwt, his]
  by_cases e : k = q
  ·
   rw [if_pos e, if_pos e]; simp
  ·
   rw [if_neg e, if_neg e]; exact h.wr k hk
 ·
  rw [hwt]
  split
  ·
   rfl
  ·
   exact h.wh k h8 h12
 ·
  rw [hrd] at hr
  by_cases e : a / 64 = q
  ·
   rw [if_pos e] at hr; cases hr
  ·
   rw [if_neg e] at hr
   rw [drop_byte, if_neg (by omega)]
   exact h.by' a ha hr
 ·
  rw [drop_byte]
  by_cases e : q * 64 ≤ a ∧ a < q * 64 + 64
  ·
   rw [if_pos e]
  ·
   rw [if_neg e]
   rw [hrd, if_neg (by omega)] at hr
   exact h.no a ha hr
 ·
  rw [drop_byte]
  split
  ·
   decide
  ·
   exact h.mb x
theorem rel_put {m : MS} {r : RS} (h : Rel m r) (a : Nat) (s : ByteArray) (hg : ∀ i, i < s.size → rgood r (addrI a i)) (ha : a < 18446744073709551616) : Rel (writeBy m a s.data.toList) (writeR r a s s.size) := by
 have hbm : ∀ x, (writeBy m a s.data.toList).byte x = if a ≤ x ∧ x < a + s.size then byteAt s (x - a) else m.byte x := fun x => by
  show (if a ≤ x ∧ x < a + s.data.toList.length then _ else _) = _
  rw [← Lib.size_eq]
  rfl
 have hbr : ∀ x, (writeR r a s s.size).by' x = if a ≤ x ∧ x < a + s.size then byteAt s (x - a) else r.by' x := fun x => rfl
 refine ⟨h.pg, h.wr, h.wh, fun x hx hr => ?_, fun x hx hr => ?_, fun x => ?_, fun x => ?_⟩
 ·
  rw [hbm, hbr]
  split
  ·
   rfl
  ·
   exact h.by' x hx hr
 ·
  rw [hbm]
  by_cases e : a ≤ x ∧ x < a + s.size
  ·
   have hfit := rgood_fits ha hg (by omega)
   have h1 := hg (x - a) (by omega)
   unfold addrI at h1
   rw [show a + (x - a) = x by omega, Nat.mod_eq_of_lt (by omega)] at h1
   have h2 : m.rd (x / 64) = true := (h.pg _ (by omega)).2 (by rw [h1.2]; decide)
   rw [show m.rd (x / 64) = false from hr] at h2
   cases h2
  ·
   rw [if_neg e]; exact h.no x hx hr
 ·
  rw [hbm]
  split
  ·
   exact byteAt_lt _ _
  ·
   exact h.mb x
 ·
  rw [hbr]
  split
  ·
   exact byteAt_lt _ _
  ·
   exact h.rb x
theorem rel_seal {m : MS} {r : RS} (h : Rel m r) (q : Nat) (h8 : 8 ≤ q) (hq : q < 12) (hrq : m.rd q = false) (s : ByteArray) (hs : s.size ≤ 64) : Rel (sealM m q s.data.toList) (rsealS r q s) := by
 have hbm : ∀ x, (sealM m q s.data.toList).byte x = if q * 64 ≤ x ∧ x < q * 64 + s.size then byteAt s (x - q * 64) else m.byte x := fun x => by
  show (if q * 64 ≤ x ∧ x < q * 64 + s.data.toList.length then _ else _) = _
  rw [← Lib.size_eq]
  rfl
 have hbr : ∀ x, (rsealS r q s).by' x = if q * 64 ≤ x ∧ x < q * 64 + s.size then byteAt s (x - q * 64) else if q * 64 ≤ x ∧ x < q * 64 + 64 then 0 else r.by' x := fun x => rfl
 have his : ∀ k, (rsealS r q s).is k = if k = q then 3 else r.is k := fun k => rfl
 have hrd := fun k => seal_rd m q k s.data.toList
 have hwt : ∀ k, (sealM m q s.data.toList).wt k = m.wt k := fun k => rfl
 refine ⟨fun k hk => ?_, fun k hk => ?_, fun k h8 h12 => ?_, fun a ha hr => ?_, fun a ha hr => ?_, fun x => ?_, fun x => ?_⟩
 ·
  rw [hrd, his]
  by_cases e : k = q
  ·
   rw [if_pos e, if_pos e]; simp
  ·
   rw [if_neg e, if_neg e]; exact h.pg k hk
 ·
  rw [hwt, his, if_neg (by omega)]; exact h.wr k hk
 ·
  rw [hwt]; exact h.wh k h8 h12
 ·
  rw [hbm, hbr]
  rw [hrd] at hr
  by_cases e1 : q * 64 ≤ a ∧ a < q * 64 + s.size
  ·
   rw [if_pos e1, if_pos e1]
  ·
   rw [if_neg e1, if_neg e1]
   by_cases e2 : q * 64 ≤ a ∧ a < q * 64 + 64
   ·
    rw [if_pos e2]
    exact h.no a ha (by rw [show a / 64 = q by omega]; exact hrq)
   ·
    rw [if_neg e2]
    rw [if_neg (by omega)] at hr
    exact h.by' a ha hr
 ·
  rw [hrd] at hr
  by_cases e : a / 64 = q
  ·
   rw [if_pos e] at hr; cases hr
  ·
   rw [if_neg e] at hr
   rw [hbm, if_neg (by omega)]
   exact h.no a ha hr
 ·
  rw [hbm]
  split
  ·
   exact byteAt_lt _ _
  ·
   exact h.mb x
 ·
  rw [hbr]
  split
  ·
   exact byteAt_lt _ _
  ·
   split
   ·
    decide
   ·
    exact h.rb x
end Go.Proofs.YtklibmijiecbfaaGreat.Mm

/- The library's contracts that this seat's walks lean on, laid at its program. -/
namespace Go.Proofs
open Go.Shelf
def Tryz.lays211_ren : Go.Shelf.Ren := ⟨fun | 211 => 112 | 207 => 110 | n => n, fun | 9 => 9 | 4 => 4 | 3 => 3 | n => n, fun | n => n⟩
def Tryz.lays104_ren : Go.Shelf.Ren := ⟨fun | 104 => 85 | 211 => 112 | 207 => 110 | n => n, fun | 9 => 9 | 4 => 4 | 24 => 170 | 3 => 3 | n => n, fun | n => n⟩
theorem Tryz.lays104 : Go.Proofs.Lays.n104 Tryz.prog Tryz.lays104_ren := {
  mixed := by kernel_rfl
  f104 := Tryz.func85.trans (congrArg some (by kernel_rfl))
  f207 := Tryz.func110.trans (congrArg some (by kernel_rfl))
  f211 := Tryz.func112.trans (congrArg some (by kernel_rfl))
  t3 := Tryz.underlying3
  a3 := Tryz.isAgg3
  z3 := Tryz.sizeOf3
  v3 := Tryz.zeroValue3
  t4 := Tryz.underlying4
  a4 := Tryz.isAgg4
  z4 := Tryz.sizeOf4
  v4 := Tryz.zeroValue4
  t9 := Tryz.underlying9
  a9 := Tryz.isAgg9
  z9 := Tryz.sizeOf9
  v9 := Tryz.zeroValue9
  t24 := Tryz.underlying170
  a24 := Tryz.isAgg170
  z24 := Tryz.sizeOf170
  v24 := Tryz.zeroValue170 }
open Go.RowKit in
theorem Tryz.strings_CutSuffix (s p : ByteArray) (w : World) (hs : s.size ≤ 9223372036854775807) :
    Calls Tryz.prog 85 #[.string s, .string p] w fun e w' => e = .returned (.tuple #[.string ⟨(Lib.trimSuffix s.data.toList p.data.toList).toArray⟩, .bool (Lib.hasSuffix s.data.toList p.data.toList)]) ∧ w' = w := Any.strings_CutSuffix Tryz.lays104 s p w hs
def Tryz.lays100_ren : Go.Shelf.Ren := ⟨fun | 100 => 83 | 207 => 110 | n => n, fun | 9 => 9 | 4 => 4 | 3 => 3 | n => n, fun | n => n⟩
theorem Tryz.lays100 : Go.Proofs.Lays.n100 Tryz.prog Tryz.lays100_ren := {
  mixed := by kernel_rfl
  f100 := Tryz.func83.trans (congrArg some (by kernel_rfl))
  f207 := Tryz.func110.trans (congrArg some (by kernel_rfl))
  t3 := Tryz.underlying3
  a3 := Tryz.isAgg3
  z3 := Tryz.sizeOf3
  v3 := Tryz.zeroValue3
  t4 := Tryz.underlying4
  a4 := Tryz.isAgg4
  z4 := Tryz.sizeOf4
  v4 := Tryz.zeroValue4
  t9 := Tryz.underlying9
  a9 := Tryz.isAgg9
  z9 := Tryz.sizeOf9
  v9 := Tryz.zeroValue9 }
open Go.RowKit Go.Lib in
theorem Tryz.strings_HasSuffix (s p : ByteArray) (w : World) (hs : s.size ≤ 9223372036854775807) :
    Calls Tryz.prog 83 #[.string s, .string p] w fun e w' => e = .returned (.bool (Lib.hasSuffix s.data.toList p.data.toList)) ∧ w' = w := Any.strings_HasSuffix Tryz.lays100 s p w hs
end Go.Proofs

/- Numbers in texts: digits and what reads them; texts of numbers with signs between. No model in it. -/
namespace Go.Proofs.YtklibmijiecbfaaGreat
open Go.RowKit

end Go.Proofs.YtklibmijiecbfaaGreat

/- strconv.Itoa and strings.Cut at this seat. -/
namespace Go.Proofs.YtklibmijiecbfaaGreat
open Go.RowKit

end Go.Proofs.YtklibmijiecbfaaGreat

/- The bits of a net: masks as remainders; mask, bit. -/
namespace Go.Proofs.YtklibmijiecbfaaGreat
open Go.RowKit

def restN (b : Nat) : Nat := 2 ^ (32 - b)
def maskN (b : Nat) : Nat := 4294967296 - restN b
theorem restN_pos (b : Nat) : 1 ≤ restN b := Nat.one_le_two_pow
theorem restN_le (b : Nat) : restN b ≤ 4294967296 := by
 unfold restN
 exact Nat.pow_le_pow_right (n := 2) (j := 32) (by decide) (by omega)
theorem maskN_lt (b : Nat) : maskN b < 4294967296 := by
 have := restN_pos b
 unfold maskN
 omega
theorem and_rest (x b : Nat) : x &&& (4294967295 - maskN b) = x % restN b := by
 have h := restN_le b
 have h1 := restN_pos b
 rw [show 4294967295 - maskN b = restN b - 1 by unfold maskN; omega]
 exact Nat.and_two_pow_sub_one_eq_mod x _
theorem and_mask (x b : Nat) (hx : x < 4294967296) (hb : b ≤ 32) : x &&& maskN b = x / restN b * restN b := by
 have e : maskN b = (2 ^ b - 1) * 2 ^ (32 - b) := by
  unfold maskN restN
  rw [Nat.sub_mul, ← Nat.pow_add, show b + (32 - b) = 32 by omega, Nat.one_mul]
 rw [e]
 unfold restN
 apply Nat.eq_of_testBit_eq
 intro i
 rw [Nat.testBit_and, Nat.testBit_mul_two_pow, Nat.testBit_mul_two_pow, Nat.testBit_two_pow_sub_one, Nat.testBit_div_two_pow]
 by_cases hi : 32 - b ≤ i
 ·
  rw [show i - (32 - b) + (32 - b) = i by omega]
  by_cases h2 : i - (32 - b) < b
  ·
   simp [hi, h2]
  ·
   have : x.testBit i = false := Nat.testBit_lt_two_pow (Nat.lt_of_lt_of_le hx (Nat.pow_le_pow_right (n := 2) (i := 32) (by decide) (by omega)))
   simp [hi, h2, this]
 ·
  simp [hi]

theorem mask_any (b : Nat) (hb : b ≤ 32) (w : World) : Calls Tryz.prog 122 #[.int .i64 b] w fun e w' => e = .returned (.int .u32 (maskN b)) ∧ w' = w := by
 go_enter Tryz.func122, Tryz.ntmps122
 go_wp2
 go_ret
 refine ⟨?_, rfl⟩
 have er : ((2 : Int) ^ (32 - b)) = (restN b : Int) := by unfold restN; simp
 have h1 := restN_pos b
 have h2 := restN_le b
 refine ret_int ?_
 rw [er]
 unfold maskN
 omega

theorem bit_any (ip i : Nat) (hip : ip < 4294967296) (hi : i ≤ 31) (w : World) : Calls Tryz.prog 78 #[.int .u32 ip, .int .i64 i] w fun e w' => e = .returned (.bool (ip / 2 ^ (31 - i) % 2 == 1)) ∧ w' = w := by
 go_enter Tryz.func78, Tryz.ntmps78
 go_wp2
 go_ret
 refine ⟨?_, rfl⟩
 have er : ((ip : Int) / 2 ^ (31 - i)) = ((ip / 2 ^ (31 - i) : Nat) : Int) := by simp
 have hl : ip / 2 ^ (31 - i) < 4294967296 := Nat.lt_of_le_of_lt (Nat.div_le_self _ _) hip
 refine ret_bool ?_
 rw [er, show (1 : Int) = ((1 : Nat) : Int) from rfl, u32_and_nat _ 1 hl (by decide), nat_mask1, Bool.eq_iff_iff]
 simp
 omega
end Go.Proofs.YtklibmijiecbfaaGreat

/- A net's check: the code's and the document's. -/
namespace Go.Proofs.YtklibmijiecbfaaGreat
open Go.RowKit

abbrev netV (ip : Nat) (b lo hi : Int) : Value := .agg #[.int .u32 ip, .int .i64 b, .int .i64 lo, .int .i64 hi]
def faultOf (ip : Nat) (b lo hi : Int) : Nat := if b < 0 ∨ 32 < b ∨ lo < 0 ∨ 65535 < hi ∨ hi < lo then 1 else if ip % restN b.toNat = 0 then 0 else 3
def errV (n : Nat) : Value := if n = 0 then .nilIface else .iface 82 (.int .i64 n)

theorem acheck_any (ip : Nat) (hip : ip < 4294967296) (b lo hi : Int) (hb : -9223372036854775808 ≤ b ∧ b ≤ 9223372036854775807) (hl : -9223372036854775808 ≤ lo ∧ lo ≤ 9223372036854775807) (hh : -9223372036854775808 ≤ hi ∧ hi ≤ 9223372036854775807) (w : World) :
  Calls Tryz.prog 105 #[netV ip b lo hi] w fun e w' => e = .returned (errV (faultOf ip b lo hi)) ∧ Below w.heap.size w w' := by
 by_cases c0 : b < 0
 ·
  have HF := hide (show errV (faultOf ip b lo hi) = .iface 82 (.int .i64 1) by unfold faultOf; rw [if_pos (by omega)]; rfl)
  have d0 : decide (b < 0) = true := decide_eq_true c0
  go_enter Tryz.func105, Tryz.ntmps105
  go_wp2
  go_ret
  refine ⟨by rw [HF.out]; rfl, ?_⟩
  first | exact (Below.refl _ _).alloc (Nat.le_refl _) _ | exact below_drewN' ((Below.refl _ _).alloc (Nat.le_refl _) _) _
 ·
  have d0 : decide (b < 0) = false := decide_eq_false c0
  by_cases c1 : 32 < b
  ·
   have HF := hide (show errV (faultOf ip b lo hi) = .iface 82 (.int .i64 1) by unfold faultOf; rw [if_pos (by omega)]; rfl)
   have d1 : decide ((32 : Int) < b) = true := decide_eq_true c1
   go_enter Tryz.func105, Tryz.ntmps105
   go_wp2
   go_ret
   refine ⟨by rw [HF.out]; rfl, ?_⟩
   first | exact (Below.refl _ _).alloc (Nat.le_refl _) _ | exact below_drewN' ((Below.refl _ _).alloc (Nat.le_refl _) _) _
  ·
   have d1 : decide ((32 : Int) < b) = false := decide_eq_false c1
   by_cases c2 : lo < 0
   ·
    have HF := hide (show errV (faultOf ip b lo hi) = .iface 82 (.int .i64 1) by unfold faultOf; rw [if_pos (by omega)]; rfl)
    have d2 : decide (lo < 0) = true := decide_eq_true c2
    go_enter Tryz.func105, Tryz.ntmps105
    go_wp2
    go_ret
    refine ⟨by rw [HF.out]; rfl, ?_⟩
    first | exact (Below.refl _ _).alloc (Nat.le_refl _) _ | exact below_drewN' ((Below.refl _ _).alloc (Nat.le_refl _) _) _
   ·
    have d2 : decide (lo < 0) = false := decide_eq_false c2
    by_cases c3 : 65535 < hi
    ·
     have HF := hide (show errV (faultOf ip b lo hi) = .iface 82 (.int .i64 1) by unfold faultOf; rw [if_pos (by omega)]; rfl)
     have d3 : decide ((65535 : Int) < hi) = true := decide_eq_true c3
     go_enter Tryz.func105, Tryz.ntmps105
     go_wp2
     go_ret
     refine ⟨by rw [HF.out]; rfl, ?_⟩
     first | exact (Below.refl _ _).alloc (Nat.le_refl _) _ | exact below_drewN' ((Below.refl _ _).alloc (Nat.le_refl _) _) _
    ·
     have d3 : decide ((65535 : Int) < hi) = false := decide_eq_false c3
     by_cases c4 : hi < lo
     ·
      have HF := hide (show errV (faultOf ip b lo hi) = .iface 82 (.int .i64 1) by unfold faultOf; rw [if_pos (by omega)]; rfl)
      have d4 : decide (hi < lo) = true := decide_eq_true c4
      go_enter Tryz.func105, Tryz.ntmps105
      go_wp2
      go_ret
      refine ⟨by rw [HF.out]; rfl, ?_⟩
      first | exact (Below.refl _ _).alloc (Nat.le_refl _) _ | exact below_drewN' ((Below.refl _ _).alloc (Nat.le_refl _) _) _
     ·
      have d4 : decide (hi < lo) = false := decide_eq_false c4
      obtain ⟨k, rfl⟩ : ∃ k : Nat, b = k := ⟨b.toNat, by omega⟩
      have hk : k ≤ 32 := by omega
      have er : bits .andNot .u32 (ip : Int) (maskN k : Int) = ((ip % restN k : Nat) : Int) := by rw [u32_andNot_nat _ _ hip (maskN_lt k), and_rest]
      by_cases cr : ip % restN k = 0
      ·
       have HF := hide (show errV (faultOf ip (k : Int) lo hi) = .nilIface by unfold faultOf; rw [if_neg (by omega), Int.toNat_natCast, if_pos cr]; rfl)
       have bn : (((ip % restN k : Nat) : Int) == 0) = true := by rw [beq_iff_eq]; omega
       clear cr
       go_enter Tryz.func105, Tryz.ntmps105
       go_wp2
       go_quiet ((go_at_call 122; first | exact Calls.quiet_of_same (mask_any k hk _) | exact quiet_same (mask_any k hk _)))
       go_wp2
       go_ret
       refine ⟨by rw [HF.out]; rfl, ?_⟩
       first | exact (Below.refl _ _).alloc (Nat.le_refl _) _ | exact below_drewN' ((Below.refl _ _).alloc (Nat.le_refl _) _) _
      ·
       have HF := hide (show errV (faultOf ip (k : Int) lo hi) = .iface 82 (.int .i64 3) by unfold faultOf; rw [if_neg (by omega), Int.toNat_natCast, if_neg cr]; rfl)
       have bn : (((ip % restN k : Nat) : Int) == 0) = false := by rw [beq_eq_false_iff_ne]; omega
       clear cr
       go_enter Tryz.func105, Tryz.ntmps105
       go_wp2
       go_quiet ((go_at_call 122; first | exact Calls.quiet_of_same (mask_any k hk _) | exact quiet_same (mask_any k hk _)))
       go_wp2
       go_ret
       refine ⟨by rw [HF.out]; rfl, ?_⟩
       first | exact (Below.refl _ _).alloc (Nat.le_refl _) _ | exact below_drewN' ((Below.refl _ _).alloc (Nat.le_refl _) _) _
end Go.Proofs.YtklibmijiecbfaaGreat

/- A net's text, and what it is read as. No walk in it. -/
namespace Go.Proofs.YtklibmijiecbfaaGreat
open Go.RowKit

theorem fault_ok {ip : Nat} {b lo hi : Int} (h : faultOf ip b lo hi = 0) : (0 ≤ b ∧ b ≤ 32) ∧ (0 ≤ lo ∧ lo ≤ hi ∧ hi ≤ 65535) ∧ ip % restN b.toNat = 0 := by
 unfold faultOf at h
 split at h
 ·
  simp at h
 ·
  split at h
  ·
   rename_i h1 h2
   exact ⟨by omega, by omega, h2⟩
  ·
   simp at h

end Go.Proofs.YtklibmijiecbfaaGreat

/- How the document reads a net's text: numbers one behind the other, whatever signs between. No model in it. -/
namespace Go.Proofs.YtklibmijiecbfaaGreat
open Go.RowKit

end Go.Proofs.YtklibmijiecbfaaGreat

/- Walks of the predicates on one byte, of strings.IndexByte and strings.HasPrefix. -/
namespace Go.Proofs.YtklibmijiecbfaaGreat.Gl
open Go.RowKit

def nameB (b : Int) : Bool := decide (97 ≤ b) && decide (b ≤ 122) || decide (65 ≤ b) && decide (b ≤ 90) || decide (48 ≤ b) && decide (b ≤ 57) || b == 46 || b == 95
def signB (b : Int) : Bool := b == 42 || b == 63 || b == 91 || b == 93 || b == 92
def plainB (b : Int) : Bool := decide (33 ≤ b) && decide (b ≤ 126) && b != 34 && !signB b

theorem isName_any (b : Int) (w : World) : Calls Tryz.prog 140 #[.int .u8 b] w fun e w' => e = .returned (.bool (nameB b)) ∧ w' = w := by
 go_enter Tryz.func140, Tryz.ntmps140
 go_wp2
 all_goals
  go_ret
  exact ⟨ret_bool (by rw [Bool.eq_iff_iff]; simp [nameB]; try omega), rfl⟩

theorem letter_any (b : Int) (w : World) : Calls Tryz.prog 123 #[.int .u8 b] w fun e w' => e = .returned (.bool (nameB b)) ∧ w' = w := by
 go_enter Tryz.func123, Tryz.ntmps123
 go_wp2
 all_goals
  go_ret
  exact ⟨ret_bool (by rw [Bool.eq_iff_iff]; simp [nameB]; try omega), rfl⟩

theorem special_any (b : Int) (w : World) : Calls Tryz.prog 107 #[.int .u8 b] w fun e w' => e = .returned (.bool (signB b)) ∧ w' = w := by
 go_enter Tryz.func107, Tryz.ntmps107
 go_wp2
 all_goals
  go_ret
  exact ⟨ret_bool (by rw [Bool.eq_iff_iff]; simp [signB]; try omega), rfl⟩

set_option maxRecDepth 100000 in
theorem lite_IndexByte (s : ByteArray) (c : Int) (w : World) :
  Calls Tryz.prog 141 #[.string s, .int .u8 c] w fun e w' => e = .returned (.int .i64 (Lib.indexByte s.data.toList c.toNat.toUInt8)) ∧ w' = w := by
 go_enter Tryz.func141, Tryz.ntmps141
 go_wp2
 rw [run_callFunc_extern Tryz.func142 (by kernel_rfl) (by kernel_rfl) (by kernel_rfl) (e := Extern.BytealgIndexByte.indexByte) (by kernel_rfl), Lib.run_indexByteString]
 simp only [Result.andThen]
 rw [Oper.upon_value]
 go_wp2
 go_ret
 exact ⟨rfl, rfl⟩

theorem strings_IndexByte (s : ByteArray) (c : Int) (w : World) :
  Calls Tryz.prog 139 #[.string s, .int .u8 c] w fun e w' => e = .returned (.int .i64 (Lib.indexByte s.data.toList c.toNat.toUInt8)) ∧ w' = w := by
 go_enter Tryz.func139, Tryz.ntmps139
 go_wp2_with (go_at_call 141; refine (lite_IndexByte _ _ _).mono ?_; rintro e w' ⟨rfl, rfl⟩)
 go_ret
 exact ⟨rfl, rfl⟩

theorem signs_index (c : Nat) (hc : c < 256) : decide (Lib.indexByte [42, 63, 91, 93, 92] (UInt8.ofNat c) < 0) = !signB c := by
 have h : ∀ c : Fin 256, decide (Lib.indexByte [42, 63, 91, 93, 92] (UInt8.ofNat c.val) < 0) = !signB c.val := by decide +kernel
 exact h ⟨c, hc⟩

theorem isPlain_any (b : Nat) (hb : b < 256) (w : World) : Calls Tryz.prog 136 #[.int .u8 b] w fun e w' => e = .returned (.bool (plainB b)) ∧ w' = w := by
 have hs := signs_index b hb
 have Hs := hide hs
 clear hs
 go_enter Tryz.func136, Tryz.ntmps136
 go_wp2_with (go_at_call 139; refine (strings_IndexByte _ _ _).mono ?_; rintro e w' ⟨rfl, rfl⟩)
 ·
  go_ret
  exact ⟨ret_bool (by rw [Bool.eq_iff_iff]; simp [plainB]; omega), rfl⟩
 ·
  go_ret
  exact ⟨ret_bool (by rw [Hs.out]; rw [Bool.eq_iff_iff]; simp [plainB]; omega), rfl⟩
 ·
  go_ret
  exact ⟨ret_bool (by rw [Bool.eq_iff_iff]; simp [plainB]; omega), rfl⟩
 ·
  go_ret
  exact ⟨ret_bool (by rw [Bool.eq_iff_iff]; simp [plainB]; omega), rfl⟩

theorem lite_HasPrefix (s p : ByteArray) (w : World) :
  Calls Tryz.prog 137 #[.string s, .string p] w fun e w' => e = .returned (.bool (Lib.hasPrefix s.data.toList p.data.toList)) ∧ w' = w := by
 rw [← Lib.hasPrefix_of_take, ← Lib.size_eq, ← Lib.size_eq]
 go_enter Tryz.func137, Tryz.ntmps137
 go_wp2
 ·
  rename_i h
  go_ret
  refine ⟨?_, rfl⟩
  show Ending.returned (Value.bool ((s.extract 0 p.size).toList == p.toList)) = _
  rw [Lib.extract_toList, Lib.toList_data]
  simp [h]
 ·
  rename_i h
  go_ret
  refine ⟨?_, rfl⟩
  show Ending.returned (Value.bool false) = _
  simp [h]

theorem strings_HasPrefix (s p : ByteArray) (w : World) :
  Calls Tryz.prog 131 #[.string s, .string p] w fun e w' => e = .returned (.bool (Lib.hasPrefix s.data.toList p.data.toList)) ∧ w' = w := by
 go_enter Tryz.func131, Tryz.ntmps131
 go_wp2_with (go_at_call 137; refine (lite_HasPrefix _ _ _).mono ?_; rintro e w' ⟨rfl, rfl⟩)
 go_ret
 exact ⟨rfl, rfl⟩
end Go.Proofs.YtklibmijiecbfaaGreat.Gl

/- Arrays of bools said by a function, for the walks of package glob: no array is ever written out. -/
namespace Go.Proofs.YtklibmijiecbfaaGreat.Gl
open Go.RowKit

def LA0 (n : Nat) (f : Nat → Bool) : Array Value := Array.ofFn (n := n) fun i => .bool (f i)
def LA (n : Nat) (f : Nat → Bool) : Array Value := if h : n = 0 then #[] else (LA (n - 1) f).push (.bool (f (n - 1)))
theorem LA_eq (n : Nat) (f : Nat → Bool) : LA n f = LA0 n f := by
 induction n with
 | zero => rw [LA]; simp [LA0]
 | succ n ih =>
  rw [LA]
  simp only [Nat.add_one_ne_zero, dite_false, Nat.add_sub_cancel, ih]
  apply Array.ext_getElem?
  intro i
  rw [Array.getElem?_push]
  have hz : (LA0 n f).size = n := by simp [LA0]
  rw [hz]
  by_cases hi : i = n
  ·
   subst hi; simp [LA0]
  ·
   rw [if_neg hi]
   by_cases hl : i < n
   ·
    simp [LA0, hl, show i < n + 1 by omega]
   ·
    simp [LA0, hl, show ¬ i < n + 1 by omega]
def PF (f : Nat → Bool) (m : Bool) : Nat → Bool := fun i => if i = 256 then m else f i
def upd (f : Nat → Bool) (i : Nat) (b : Bool) : Nat → Bool := fun j => if j = i then b else f j

theorem LA_size (n : Nat) (f : Nat → Bool) : (LA n f).size = n := by rw [LA_eq]; simp [LA0]
theorem LA_get (n : Nat) (f : Nat → Bool) (i : Nat) (h : i < n) : (LA n f)[i]? = some (.bool (f i)) := by rw [LA_eq]; simp [LA0, h]
theorem LA_set (n : Nat) (f : Nat → Bool) (i : Nat) (b : Bool) : (LA n f).setIfInBounds i (.bool b) = LA n (upd f i b) := by
 apply Array.ext_getElem?
 intro j
 rw [Array.getElem?_setIfInBounds]
 by_cases hj : j < n
 ·
  rw [LA_get n f j hj, LA_get n _ j hj, LA_size]
  by_cases h : i = j
  ·
   subst h; simp [upd, hj]
  ·
   have h' : ¬ j = i := fun e => h e.symm
   simp [h, h', upd]
 ·
  have e1 : (LA n f)[j]? = none := by simp [LA_size]; omega
  have e2 : (LA n (upd f i b))[j]? = none := by simp [LA_size]; omega
  rw [e1, e2, LA_size]
  by_cases h : i = j
  ·
   subst h; simp [hj]
  ·
   simp [h]
theorem LA_one (n : Nat) (f : Nat → Bool) : (LA n f).all (·.oneCell') = true := by
 rw [LA_eq, Array.all_eq_true]
 intro i h
 simp [LA0, Value.oneCell']
theorem LA_congr (n : Nat) (f g : Nat → Bool) (h : ∀ i, i < n → f i = g i) : LA n f = LA n g := by
 rw [LA_eq, LA_eq]
 apply Array.ext
 ·
  simp [LA0]
 ·
  intro i h1 h2
  simp only [LA0, Array.size_ofFn] at h1
  simp [LA0, h i h1]

theorem below_setRow {B : Nat} {a w : World} (h : Below B a w) {g : Nat} (hg : B ≤ g) (cs : Array Value) : Below B a (w.setRow g cs) :=
 ⟨h.os, h.tape, h.output, by simpa using h.size, fun k hk => (setRow_other w g k cs (by omega)).trans (h.block k hk)⟩

theorem run_zero_LA {P : Program} {t : TypeId} {n : Nat} (h : (P.info? t).map (·.zero) = some (some (.agg (LA n fun _ => false)))) (w : World) :
  (zeroValue t).run P w = .ok (.agg (LA n fun _ => false)) w := by
 cases hq : P.info? t with
 | none => simp [hq] at h
 | some i =>
  simp [hq] at h
  simp [zeroValue, typeInfo, hq, h]

theorem zero_like : (Tryz.prog.info? 222).map (·.zero) = some (some (.agg (LA 256 fun _ => false))) := by rw [LA_eq]; kernel_rfl
theorem zero_part : (Tryz.prog.info? 224).map (·.zero) = some (some (.agg (LA 257 fun _ => false))) := by rw [LA_eq]; kernel_rfl
theorem zero_places : (Tryz.prog.info? 217).map (·.zero) = some (some (.agg (LA 25 fun _ => false))) := by rw [LA_eq]; kernel_rfl
theorem size_like : (Tryz.prog.info? 222).map (·.size) = some 256 := by kernel_rfl
theorem size_part : (Tryz.prog.info? 224).map (·.size) = some 257 := by kernel_rfl
theorem size_places : (Tryz.prog.info? 217).map (·.size) = some 25 := by kernel_rfl
theorem zv_like (w : World) : (zeroValue 222).run Tryz.prog w = .ok (.agg (LA 256 fun _ => false)) w := run_zero_LA zero_like w
theorem zv_part (w : World) : (zeroValue 224).run Tryz.prog w = .ok (.agg (LA 257 fun _ => false)) w := run_zero_LA zero_part w
theorem zv_places (w : World) : (zeroValue 217).run Tryz.prog w = .ok (.agg (LA 25 fun _ => false)) w := run_zero_LA zero_places w

theorem build_part0 (w : World) : (Instr.build 224 #[]).run Tryz.prog w = .ok (.agg (LA 257 fun _ => false)) w := by rw [LA_eq]; kernel_rfl
end Go.Proofs.YtklibmijiecbfaaGreat.Gl

/- Whole arrays of bools read, laid and handed back. -/
namespace Go.Proofs.YtklibmijiecbfaaGreat.Gl
open Go.RowKit

theorem wpList_load_LA {P : Program} {ops : Array Oper} {rest : List Oper} {o : Oper} {a : Act} {w : World} {Q : Exit → Act → World → Prop} (t : TypeId) (n k : Nat) (e : TypeId) (hgd : o.guard = none) (x : Operand) (ho : o.op = .load t x)
  (g : Nat) (hx : a.eval x = .pointer (some ⟨g, 0, none⟩)) (hu : P.underlying t = some (.array k e)) (hi : (P.info? t).map (·.size) = some n) (f : Nat → Bool) (t' : TypeId) (hg : w.heap[g]? = some (.cells (LA n f) t' (0, 0)))
  (h : wpList P ops Q rest (a.put o.dst (.agg (LA n f))) w) : wpList P ops Q (o :: rest) a w :=
 wpList_load_row hgd t x ho g hx t' (LA n f) (0, 0) _ hg hu rfl (by rw [LA_size]; exact hi) h

theorem wpList_store_LA {P : Program} {ops : Array Oper} {rest : List Oper} {o : Oper} {a : Act} {w : World} {Q : Exit → Act → World → Prop} (t : TypeId) (n : Nat) (hgd : o.guard = none) (x y : Operand) (ho : o.op = .store t x y)
  (g : Nat) (hx : a.eval x = .pointer (some ⟨g, 0, none⟩)) (f : Nat → Bool) (hy : a.eval y = .agg (LA n f)) (hi : (P.info? t).map (·.size) = some n) (f' : Nat → Bool) (t' : TypeId) (hg : w.heap[g]? = some (.cells (LA n f') t' (0, 0)))
  (h : wpList P ops Q rest (a.put o.dst undef) (w.setRow g (LA n f))) : wpList P ops Q (o :: rest) a w :=
 wpList_store_row hgd t x y ho g (LA n f) hx hy t' (LA n f') hg (by rw [LA_size]; exact hi) (by rw [LA_size, LA_size]) (LA_one _ _) h

theorem results_LA {P : Program} {fn : Func} {p : Tmp} {t : TypeId} (n k : Nat) (e : TypeId) (h : fn.results = #[.cell p t]) (tmps : Array Value) (w : World) (g : Nat) (f : Nat → Bool) (t' : TypeId)
  (hp : tmps.getD p undef = .pointer (some ⟨g, 0, none⟩)) (hg : w.heap[g]? = some (.cells (LA n f) t' (0, 0)))
  (hu : P.underlying t = some (.array k e)) (hi : (P.info? t).map (·.size) = some n) :
  (results fn tmps).run P w = .ok (.agg (LA n f)) w :=
 results_cell_row h tmps w g t' (LA n f) (0, 0) _ hp hg hu rfl (by rw [LA_size]; exact hi)

theorem heap_setRow_same {w : World} {g : Nat} {cs : Array Value} {t : TypeId} (cs' : Array Value) (h : w.heap[g]? = some (.cells cs t (0, 0))) : (w.setRow g cs').heap[g]? = some (.cells cs' t (0, 0)) := setRow_heap w g cs cs' t (0, 0) h
theorem LA_at (n : Nat) (f : Nat → Bool) (i : Nat) (h : i < (LA n f).size) : (LA n f)[i] = .bool (f i) := by
 have := LA_get n f i (by rw [LA_size] at h; exact h)
 rw [Array.getElem?_eq_getElem h] at this
 exact Option.some.inj this
end Go.Proofs.YtklibmijiecbfaaGreat.Gl

/- Walks of glob.only and glob.others. -/
namespace Go.Proofs.YtklibmijiecbfaaGreat.Gl
open Go.RowKit
attribute [local go_sem] LA_set LA_get LA_size LA_at

set_option maxRecDepth 10000 in
theorem only_any (b : Nat) (hb : b < 256) (w : World) :
  Calls Tryz.prog 133 #[.int .u8 b] w fun e w' => e = .returned (.agg (LA 256 (upd (fun _ => false) b true))) ∧ Below w.heap.size w w' := by
 have ha := zv_like
 go_enter Tryz.func133, Tryz.ntmps133
 go_wp2_with (first
  | (refine wpList_load_LA 222 256 256 4 rfl _ rfl ?g ?hx Tryz.underlying222 size_like (upd (fun _ => false) b true) 222 ?hg ?h; (case g => exact w.heap.size + 1); (case hx => rfl); (case hg => with_reducible exact heap_alloc2_new _ _ _))
  | (refine wpList_store_LA 222 256 rfl _ _ rfl ?g2 ?hx2 (upd (fun _ => false) b true) ?hy2 size_like (fun _ => false) 222 ?hg2 ?h2; (case g2 => exact w.heap.size); (case hx2 => rfl); (case hy2 => rfl); (case hg2 => with_reducible exact heap_alloc2_old _ _ _))
  | (refine bodyPost_ret (results_LA 256 256 4 rfl _ _ w.heap.size _ 222 rfl (heap_setRow_same _ (heap_alloc2_old _ _ _)) Tryz.underlying222 size_like) rfl ⟨rfl, ?hb⟩; exact below_setRow (((Below.refl _ _).alloc (Nat.le_refl _) _).alloc (by simp) _) (Nat.le_refl _) _))

def turned (f : Nat → Bool) (k : Nat) : Nat → Bool := fun i => if i < k then !f i else f i
theorem turned_zero (f : Nat → Bool) : turned f 0 = f := by funext i; simp [turned]
theorem turned_succ (f : Nat → Bool) (k : Nat) : upd (turned f k) k (!f k) = turned f (k + 1) := by
 funext i
 simp only [upd, turned]
 by_cases h : i = k
 ·
  subst h; simp
 ·
  by_cases h2 : i < k
  ·
   simp [h, h2, show i < k + 1 by omega]
  ·
   simp [h, h2, show ¬ i < k + 1 by omega]
theorem turned_all (f : Nat → Bool) : LA 256 (turned f 256) = LA 256 fun i => !f i := LA_congr _ _ _ fun i h => by simp [turned, h]

set_option maxRecDepth 10000 in
theorem others_any (f : Nat → Bool) (w : World) :
  Calls Tryz.prog 132 #[.agg (LA 256 f)] w fun e w' => e = .returned (.agg (LA 256 fun i => !f i)) ∧ Below w.heap.size w w' := by
 have ha := zv_like
 go_enter Tryz.func132, Tryz.ntmps132
 go_wp2_with fail
 go_loopw [4] (fun i w' => ∃ k : Nat, k ≤ 256 ∧ i = .int .i64 k ∧ w' = (w.alloc (.cells (LA 256 (turned f k)) 222)).alloc (.cells (LA 256 fun _ => false) 222)) (fun i _ => 256 - (intOf i).toNat)
 case atStart => exact ⟨0, by omega, rfl, by rw [turned_zero]⟩
 case round =>
  obtain ⟨k, hk, rfl, rfl⟩ := hrel
  by_cases hlt : k < 256
  ·
   have hf : turned f k k = f k := by simp [turned]
   go_wp2_with fail
   go_roundw
   case rel => exact ⟨k + 1, by omega, by go_num, by rw [turned_succ]⟩
   case measure => simp [intOf]; omega
  ·
   have e : k = 256 := by omega
   have He := hide e
   clear e
   go_wp2_with (first
    | (refine wpList_load_LA 222 256 256 4 rfl _ rfl ?g ?hx Tryz.underlying222 size_like (turned f k) 222 ?hg ?h; (case g => exact w.heap.size); (case hx => rfl); (case hg => with_reducible exact heap_alloc2_old _ _ _))
    | (refine wpList_store_LA 222 256 rfl _ _ rfl ?g2 ?hx2 (turned f k) ?hy2 size_like (fun _ => false) 222 ?hg2 ?h2; (case g2 => exact w.heap.size + 1); (case hx2 => rfl); (case hy2 => rfl); (case hg2 => with_reducible exact heap_alloc2_new _ _ _))
    | (refine bodyPost_ret (results_LA 256 256 4 rfl _ _ (w.heap.size + 1) _ 222 rfl (heap_setRow_same _ (heap_alloc2_new _ _ _)) Tryz.underlying222 size_like) rfl ⟨?he, ?hb⟩; (case he => rw [He.out, turned_all]); (case hb => exact below_setRow (((Below.refl _ _).alloc (Nat.le_refl _) _).alloc (by simp) _) (by omega) _)))
end Go.Proofs.YtklibmijiecbfaaGreat.Gl

/- Walks of glob.member and glob.escaped. -/
namespace Go.Proofs.YtklibmijiecbfaaGreat.Gl
open Go.RowKit

def byteAt (s : ByteArray) (i : Nat) : Nat := (s.data.toList.getD i 0).toNat
theorem byteAt_lt (s : ByteArray) (i : Nat) : byteAt s i < 256 := (s.data.toList.getD i 0).toNat_lt
theorem byteAt_eq (s : ByteArray) (i : Nat) (h : i < s.size) : s[i].toNat = byteAt s i := by
 unfold byteAt
 rw [List.getD_eq_getElem?_getD, List.getElem?_eq_getElem (by rw [← Lib.size_eq]; exact h)]
 rfl

def memberN (n b0 b1 b2 : Nat) : Nat :=
 if nameB b0 = true then (if n < 2 then 1 else if b1 = 45 then (if n < 3 then 0 else if nameB b2 = true then (if b2 < b0 then 0 else 3) else 0) else 1) else 0

set_option maxHeartbeats 400000 in
theorem member_any (s : ByteArray) (hs : 0 < s.size) (hz : s.size ≤ 1000) (w : World) :
  Calls Tryz.prog 138 #[.string s] w fun e w' => e = .returned (.int .i64 (memberN s.size (byteAt s 0) (byteAt s 1) (byteAt s 2))) ∧ ∃ n, w' = w.drewN n := by
 have e0 := byteAt_eq s 0 hs
 unfold memberN
 by_cases n0 : nameB (byteAt s 0) = true
 ·
  rw [if_pos n0]
  by_cases h2 : s.size < 2
  ·
   rw [if_pos h2]
   go_enter Tryz.func138, Tryz.ntmps138
   go_wp2_with (go_at_call 140; refine (isName_any _ _).mono ?_; rintro e w' ⟨rfl, rfl⟩)
   go_ret
   exact ⟨rfl, 0, rfl⟩
  ·
   rw [if_neg h2]
   have e1 := byteAt_eq s 1 (by omega)
   by_cases h1 : byteAt s 1 = 45
   ·
    rw [if_pos h1]
    have b1 : (((byteAt s 1 : Nat) : Int) != 45) = false := by simp [h1]
    have H1 := hide h1
    clear h1
    by_cases h3 : s.size < 3
    ·
     rw [if_pos h3]
     have d3 : decide ((s.size : Int) < 3) = true := by simp; omega
     go_enter Tryz.func138, Tryz.ntmps138
     go_wp2_with (go_at_call 140; refine (isName_any _ _).mono ?_; rintro e w' ⟨rfl, rfl⟩)
     go_quiet (fail)
     go_wp2
     go_ret
     exact ⟨rfl, _, rfl⟩
    ·
     rw [if_neg h3]
     have e2 := byteAt_eq s 2 (by omega)
     have d3 : decide ((s.size : Int) < 3) = false := by simp; omega
     by_cases n2 : nameB (byteAt s 2) = true
     ·
      rw [if_pos n2]
      by_cases hlt : byteAt s 2 < byteAt s 0
      ·
       rw [if_pos hlt]
       have dl : decide ((byteAt s 2 : Int) < (byteAt s 0 : Int)) = true := by simp; omega
       go_enter Tryz.func138, Tryz.ntmps138
       go_wp2_with (go_at_call 140; refine (isName_any _ _).mono ?_; rintro e w' ⟨rfl, rfl⟩)
       go_quiet ((go_at_call 140; exact Calls.quiet_of_same (isName_any _ _)))
       go_wp2
       go_ret
       exact ⟨rfl, _, rfl⟩
      ·
       rw [if_neg hlt]
       have dl : decide ((byteAt s 2 : Int) < (byteAt s 0 : Int)) = false := by simp; omega
       go_enter Tryz.func138, Tryz.ntmps138
       go_wp2_with (go_at_call 140; refine (isName_any _ _).mono ?_; rintro e w' ⟨rfl, rfl⟩)
       go_quiet ((go_at_call 140; exact Calls.quiet_of_same (isName_any _ _)))
       go_wp2
       go_ret
       exact ⟨rfl, _, rfl⟩
     ·
      rw [if_neg n2]
      have n2' : nameB (byteAt s 2) = false := by simpa using n2
      clear n2
      go_enter Tryz.func138, Tryz.ntmps138
      go_wp2_with (go_at_call 140; refine (isName_any _ _).mono ?_; rintro e w' ⟨rfl, rfl⟩)
      go_quiet ((go_at_call 140; exact Calls.quiet_of_same (isName_any _ _)))
      go_wp2
      go_ret
      exact ⟨rfl, _, rfl⟩
   ·
    rw [if_neg h1]
    have b1 : (((byteAt s 1 : Nat) : Int) != 45) = true := by rw [bne_iff_ne]; omega
    go_enter Tryz.func138, Tryz.ntmps138
    go_wp2_with (go_at_call 140; refine (isName_any _ _).mono ?_; rintro e w' ⟨rfl, rfl⟩)
    go_ret
    exact ⟨rfl, 0, rfl⟩
 ·
  rw [if_neg n0]
  have n0' : nameB (byteAt s 0) = false := by simpa using n0
  clear n0
  go_enter Tryz.func138, Tryz.ntmps138
  go_wp2_with (go_at_call 140; refine (isName_any _ _).mono ?_; rintro e w' ⟨rfl, rfl⟩)
  go_ret
  exact ⟨rfl, 0, rfl⟩
end Go.Proofs.YtklibmijiecbfaaGreat.Gl

/- What glob.class, escaped, first and parse compute, as plain functions of bytes. -/
namespace Go.Proofs.YtklibmijiecbfaaGreat.Gl
open Go.RowKit

def addRange (f : Nat → Bool) (lo hi : Nat) : Nat → Bool := fun i => f i || (decide (lo ≤ i) && decide (i ≤ hi))
def addTo (f : Nat → Bool) (lo hi k : Nat) : Nat → Bool := fun i => f i || (decide (i < k) && (decide (lo ≤ i) && decide (i ≤ hi)))
theorem addTo_zero (f : Nat → Bool) (lo hi : Nat) : addTo f lo hi 0 = f := by funext i; simp [addTo]
theorem addTo_yes (f : Nat → Bool) (lo hi k : Nat) (h1 : lo ≤ k) (h2 : k ≤ hi) : upd (addTo f lo hi k) k true = addTo f lo hi (k + 1) := by
 funext i
 simp only [upd, addTo]
 by_cases h : i = k
 ·
  subst h; simp [h1, h2]
 ·
  have e : decide (i < k + 1) = decide (i < k) := by rw [decide_eq_decide]; omega
  simp [h, e]
theorem addTo_no (f : Nat → Bool) (lo hi k : Nat) (h : ¬ (lo ≤ k ∧ k ≤ hi)) : addTo f lo hi k = addTo f lo hi (k + 1) := by
 funext i
 simp only [addTo]
 by_cases hi' : i = k
 ·
  subst hi'
  have : (decide (lo ≤ i) && decide (i ≤ hi)) = false := by
   rw [Bool.and_eq_false_iff]; simp only [decide_eq_false_iff_not]; omega
  simp [this]
 ·
  have e : decide (i < k + 1) = decide (i < k) := by rw [decide_eq_decide]; omega
  rw [e]
theorem addTo_all (f : Nat → Bool) (lo hi : Nat) (h : hi < 256) : addTo f lo hi 256 = addRange f lo hi := by
 funext i
 simp only [addTo, addRange]
 by_cases h1 : i ≤ hi
 ·
  simp [show i < 256 by omega]
 ·
  simp [h1]

def memberAt (s : ByteArray) (at' : Nat) : Nat := memberN (s.size - at') (byteAt s at') (byteAt s (at' + 1)) (byteAt s (at' + 2))

def scan : Nat → ByteArray → Nat → (Nat → Bool) → Option (Nat × (Nat → Bool))
 | 0, _, _, _ => none
 | k + 1, s, a, f =>
  if a < s.size ∧ byteAt s a ≠ 93 then
   (if memberAt s a = 0 then none else scan k s (a + memberAt s a) (addRange f (byteAt s a) (byteAt s (a + memberAt s a - 1))))
  else some (a, f)

theorem memberAt_le (s : ByteArray) (a : Nat) (h : a < s.size) : a + memberAt s a ≤ s.size ∧ memberAt s a ≤ 3 := by
 unfold memberAt memberN
 repeat' split
 all_goals omega

def notB (s : ByteArray) : Bool := decide (1 < s.size) && byteAt s 1 == 33
def classBegin (s : ByteArray) : Nat := if notB s = true then 2 else 1
def classFin (nb : Bool) (B size : Nat) : Option (Nat × (Nat → Bool)) → Option ((Nat → Bool) × Nat)
 | none => none
 | some (a, f) => if a = B ∨ a = size then none else some (upd (if nb = true then fun i => !f i else f) 47 false, a + 1)
def classR (s : ByteArray) : Option ((Nat → Bool) × Nat) := classFin (notB s) (classBegin s) s.size (scan (s.size + 1) s (classBegin s) fun _ => false)

theorem byteAt_extract (s : ByteArray) (a i : Nat) (_h : a ≤ s.size) : byteAt (s.extract a s.size) i = byteAt s (a + i) := by
 unfold byteAt
 rw [Lib.extract_data]
 simp only [List.getD_eq_getElem?_getD]
 congr 2
 rw [List.take_of_length_le (by simp only [List.length_drop, Lib.size_eq]; omega), List.getElem?_drop]
theorem size_extract (s : ByteArray) (a : Nat) : (s.extract a s.size).size = s.size - a := by simp

theorem hasPrefix_one (s : ByteArray) (c : UInt8) : Lib.hasPrefix s.data.toList [c] = (decide (0 < s.size) && byteAt s 0 == c.toNat) := by
 unfold byteAt
 rw [Lib.size_eq]
 cases h : s.data.toList with
 | nil => simp [Lib.hasPrefix]
 | cons a l =>
  simp only [Lib.hasPrefix, List.isPrefixOf, List.getD_cons_zero, List.length_cons]
  rw [Bool.eq_iff_iff]
  simp only [Bool.and_true, beq_iff_eq, Nat.zero_lt_succ, decide_true, Bool.true_and, ← UInt8.toNat_inj]
  exact ⟨fun h => h.symm, fun h => h.symm⟩

theorem hasPrefix_not (s : ByteArray) (h : 1 ≤ s.size) : Lib.hasPrefix (s.extract 1 s.size).data.toList [33] = notB s := by
 rw [hasPrefix_one, byteAt_extract s 1 0 h, size_extract]
 unfold notB
 congr 1
 rw [decide_eq_decide]; omega
end Go.Proofs.YtklibmijiecbfaaGreat.Gl
