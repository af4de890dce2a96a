/- Put. -/
import Derived.Test.YtklibmijiecbfaaGreatK1
import Derived.Deep.RegionWith
import Derived.Laws.BitsAllLaws
import Derived.OwnWalk
import Derived.Lib.Builder
import Derived.Lib.SmallJoins
import Derived.Deep.RegionHeld3
import Derived.Deep.AppendLies
import Derived.Laws.MakeOwn
import Derived.Deep.MidRow
import Derived.Lib.Strings
namespace Go.Proofs.YtklibmijiecbfaaGreat.Bp
end Go.Proofs.YtklibmijiecbfaaGreat.Bp
namespace Go.Proofs.YtklibmijiecbfaaGreat.Mm
open Go.Proofs.YtklibmijiecbfaaGreat.Bp
open Go.RowKit
attribute [local go_sem] PW_drew PW_drewN PW_fro

def strLen : Value → Nat
 | .string s => s.size
 | _ => 0
def goodM (m : MS) (x : Nat) : Prop := x < 768 ∧ m.wt (x / 64) = true
theorem find_any (g a : Nat) (ha : a < 18446744073709551616) (w : World) :
  Calls Tryz.prog 81 #[.pointer (some ⟨g, 0, none⟩), .int .u64 a] w fun e w' => e = .returned (if a < 768 then .tuple #[.pointer (some ⟨g, a / 64 * 66, none⟩), .int .i64 (a % 64 : Nat)] else .tuple #[.pointer none, .int .i64 0]) ∧ w' = w := by
 by_cases h : a < 768
 ·
  rw [if_pos h]; exact find_ok g a h w
 ·
  rw [if_neg h]; exact find_no g a (by omega) ha w

theorem put_bad (B : MB) (m : MS) (k a : Nat) (s : ByteArray) (hs : s.size < 4294967296) (hbad : ∃ i, i < s.size ∧ ¬ goodM m (addrI a i)) :
  Calls Tryz.prog 64 #[.pointer (some ⟨B.g, 0, none⟩), .int .u64 a, .string s] (PW B m k) fun e w' => e = .returned (.iface 82 (.int .i64 5)) ∧ ∃ k', w' = PW B m k' := by
 have HBAD := hide hbad
 clear hbad
 obtain ⟨ai, hai⟩ : ∃ x : Int, x = (a : Int) := ⟨_, rfl⟩
 rw [← hai]
 have HAI := hide hai
 clear hai
 go_enter Tryz.func64, Tryz.ntmps64
 go_wp2
 go_loopw [15] (fun I w' => ∃ i : Nat, i ≤ s.size ∧ I = .int .i64 i ∧ w' = PW B m k ∧ Hid (∀ j, j < i → goodM m (addrI a j))) (fun I _ => s.size - (intOf I).toNat)
 case atStart => exact ⟨0, by omega, rfl, rfl, hide (fun j hj => by omega)⟩
 case round =>
  obtain ⟨i, hi, rfl, rfl, HG⟩ := hrel
  by_cases hlt : i < s.size
  ·
   obtain ⟨y, hy⟩ : ∃ y, y = addrI a i := ⟨_, rfl⟩
   obtain ⟨x, hx⟩ : ∃ x : Int, x = (y : Int) := ⟨_, rfl⟩
   have hw : IntKind.u64.wrap (ai + i) = x := by
    rw [IntKind.wrap_u64, HAI.out, hx, hy]
    unfold addrI
    omega
   have HC := fun w => find_any B.g y (by rw [hy]; exact Nat.mod_lt _ (by decide)) w
   rw [← hx] at HC
   have HX := hide hx
   have HY := hide hy
   clear hx hy
   by_cases hin : y < 768
   ·
    have c1 := PW_wt B m k (y / 64) (by omega)
    simp only [if_pos hin] at HC
    cases hr : m.wt (y / 64) with
    | false =>
     rw [hr] at c1
     clear hr
     go_wp2_with (go_at_call 81; refine (HC _).mono ?_; rintro e w' ⟨rfl, hww⟩; rw [hww]; clear hww w')
     go_ret
     exact ⟨rfl, k, rfl⟩
    | true =>
     have HG2 := hide (show ∀ j, j < i + 1 → goodM m (addrI a j) from fun j hj => by
      by_cases h : j < i
      ·
       exact HG.out j h
      ·
       rw [show j = i by omega, ← HY.out]; exact ⟨hin, hr⟩)
     rw [hr] at c1
     clear hr
     go_wp2_with (go_at_call 81; refine (HC _).mono ?_; rintro e w' ⟨rfl, hww⟩; rw [hww]; clear hww w')
     go_round
     case rel => exact ⟨i + 1, by omega, by go_num, trivial, HG2⟩
     case measure => simp [intOf]; omega
   ·
    simp only [if_neg hin] at HC
    go_wp2_with (go_at_call 81; refine (HC _).mono ?_; rintro e w' ⟨rfl, hww⟩; rw [hww]; clear hww w')
    go_ret
    exact ⟨rfl, k, rfl⟩
  ·
   obtain rfl : i = s.size := by omega
   obtain ⟨j, hj, hb⟩ := HBAD.out
   exact absurd (HG.out j hj) hb

theorem writeBy_nil (m : MS) (a : Nat) : writeBy m a [] = m := by
 unfold writeBy
 have : (fun x => if a ≤ x ∧ x < a + ([] : List UInt8).length then (([] : List UInt8).getD (x - a) 0).toNat else m.byte x) = m.byte := by
  funext x
  rw [if_neg (by simp)]
 rw [this]
theorem writeBy_app (m : MS) (a : Nat) (l1 l2 : List UInt8) : writeBy (writeBy m a l1) (a + l1.length) l2 = writeBy m a (l1 ++ l2) := by
 unfold writeBy
 congr 1
 funext x
 show (if a + l1.length ≤ x ∧ x < a + l1.length + l2.length then (l2.getD (x - (a + l1.length)) 0).toNat else if a ≤ x ∧ x < a + l1.length then (l1.getD (x - a) 0).toNat else m.byte x) = if a ≤ x ∧ x < a + (l1 ++ l2).length then ((l1 ++ l2).getD (x - a) 0).toNat else m.byte x
 rw [List.length_append]
 by_cases h1 : a + l1.length ≤ x ∧ x < a + l1.length + l2.length
 ·
  rw [if_pos h1, if_pos (by omega), List.getD_eq_getElem?_getD, List.getD_eq_getElem?_getD, List.getElem?_append_right (by omega), show x - a - l1.length = x - (a + l1.length) by omega]
 ·
  rw [if_neg h1]
  by_cases h2 : a ≤ x ∧ x < a + l1.length
  ·
   rw [if_pos h2, if_pos (by omega), List.getD_eq_getElem?_getD, List.getD_eq_getElem?_getD, List.getElem?_append_left (by omega)]
  ·
   rw [if_neg h2, if_neg (by omega)]

theorem good_fits {m : MS} {a n : Nat} (ha : a < 18446744073709551616) (h : ∀ i, i < n → goodM m (addrI a i)) (h0 : 0 < n) : a + n ≤ 768 := by
 have h1 := (h 0 h0).1
 unfold addrI at h1
 rw [Nat.add_zero, Nat.mod_eq_of_lt ha] at h1
 rcases Nat.lt_or_ge 768 (a + n) with h2 | h2
 ·
  have h3 := (h (768 - a) (by omega)).1
  unfold addrI at h3
  rw [show a + (768 - a) = 768 by omega] at h3
  exact absurd h3 (by decide)
 ·
  exact h2

theorem slice_page (g y : Nat) (W : World) : (Instr.sliceAt 85 (.pointer (some ⟨g, y / 64 * 66, none⟩)) (some (.int .i64 ((y : Int) % 64))) none none).run Tryz.prog W = .ok (.slice (some ⟨g, y / 64 * 66 + y % 64, none⟩) (64 - y % 64) (64 - y % 64)) W := by
 have hal : Tryz.prog.arrayLen 85 = 64 := by kernel_rfl
 rw [run_sliceAt_array_l W 85 ⟨g, y / 64 * 66, none⟩ (by kernel_rfl) .i64 ((y : Int) % 64) (by omega) (by rw [hal]; omega)]
 rw [hal, show Tryz.prog.elem 85 = 5 by kernel_rfl, Tryz.sizeOf5 W, Result.andThen_ok, show ((y : Int) % 64).toNat = y % 64 by omega]
 unfold slicedAt
 rw [Nat.mul_one, if_neg (by omega)]
 have e : (⟨g, y / 64 * 66, none⟩ : Addr).add (y % 64) = ⟨g, y / 64 * 66 + y % 64, none⟩ := by
  by_cases h : y % 64 = 0
  ·
   rw [h]; simp [Addr.add]
  ·
   simp [Addr.add, h]
 rw [e]

set_option maxRecDepth 20000 in
theorem put_ok (B : MB) (m : MS) (k a : Nat) (s : ByteArray) (ha : a < 18446744073709551616) (hs : s.size < 4294967296) (hgood : ∀ i, i < s.size → goodM m (addrI a i)) :
  Calls Tryz.prog 64 #[.pointer (some ⟨B.g, 0, none⟩), .int .u64 a, .string s] (PW B m k) fun e w' => e = .returned .nilIface ∧ ∃ k', w' = PW B (writeBy m a s.data.toList) k' := by
 have HGD := hide hgood
 have HFIT := hide (good_fits ha hgood)
 clear hgood ha
 obtain ⟨ai, hai⟩ : ∃ x : Int, x = (a : Int) := ⟨_, rfl⟩
 rw [← hai]
 have HAI := hide hai
 clear hai
 go_enter Tryz.func64, Tryz.ntmps64
 go_wp2
 go_loopw [15] (fun I w' => ∃ i : Nat, i ≤ s.size ∧ I = .int .i64 i ∧ w' = PW B m k ∧ Hid (∀ j, j < i → goodM m (addrI a j))) (fun I _ => s.size - (intOf I).toNat)
 case atStart => exact ⟨0, by omega, rfl, rfl, hide (fun j hj => by omega)⟩
 case round =>
  obtain ⟨i, hi, rfl, rfl, HG⟩ := hrel
  by_cases hlt : i < s.size
  ·
   obtain ⟨y, hy⟩ : ∃ y, y = addrI a i := ⟨_, rfl⟩
   obtain ⟨x, hx⟩ : ∃ x : Int, x = (y : Int) := ⟨_, rfl⟩
   have hw : IntKind.u64.wrap (ai + i) = x := by
    rw [IntKind.wrap_u64, HAI.out, hx, hy]
    unfold addrI
    omega
   have HC := fun w => find_any B.g y (by rw [hy]; exact Nat.mod_lt _ (by decide)) w
   rw [← hx] at HC
   have HX := hide hx
   have HY := hide hy
   clear hx hy
   obtain ⟨hin, hr⟩ := HGD.out i hlt
   rw [← HY.out] at hin hr
   have c1 := PW_wt B m k (y / 64) (by omega)
   simp only [if_pos hin] at HC
   have HG2 := hide (show ∀ j, j < i + 1 → goodM m (addrI a j) from fun j hj => HGD.out j (by omega))
   rw [hr] at c1
   clear hr
   go_wp2_with (go_at_call 81; refine (HC _).mono ?_; rintro e w' ⟨rfl, hww⟩; rw [hww]; clear hww w')
   go_round
   case rel => exact ⟨i + 1, by omega, by go_num, trivial, HG2⟩
   case measure => simp [intOf]; omega
  ·
   obtain rfl : i = s.size := by omega
   go_wp2
   go_loopw [1, 2] (fun A S w' => ∃ (t : Nat) (x : Int) (z : ByteArray), t ≤ s.size ∧ A = .int .u64 x ∧ S = .string z ∧ z.size = s.size - t ∧ w' = PW B (writeBy m a (s.data.toList.take t)) k ∧ Hid (x = ((a + t : Nat) : Int)) ∧ Hid (z.data.toList = s.data.toList.drop t)) (fun _ S _ => strLen S)
   case atStart => exact ⟨0, ai, s, by omega, rfl, rfl, by omega, by rw [List.take_zero, writeBy_nil], hide HAI.out, hide (by rw [List.drop_zero])⟩
   case round =>
    obtain ⟨t, x, z, ht, rfl, rfl, hz, rfl, HX, HZ⟩ := hrel
    by_cases hlt : t < s.size
    ·
     have hfit : a + s.size ≤ 768 := HFIT.out (by omega)
     obtain ⟨y, hy⟩ : ∃ y, y = a + t := ⟨_, rfl⟩
     have hy7 : y < 768 := by omega
     have HC := fun w => find_ok B.g y hy7 w
     rw [show ((y : Nat) : Int) = x by rw [HX.out, hy]] at HC
     have HY := hide hy
     clear hy
     have hsl := slice_page B.g y
     go_wp2_with (first
      | (go_at_call 81; refine (HC _).mono ?_; rintro e w' ⟨rfl, hww⟩; rw [hww]; clear hww w')
      | (refine wpList_copy_page rfl _ _ rfl B _ _ (y / 64) (y % 64) _ z ?_ ?_ ?_ ?_ ?_; (· omega); (· omega); (· rfl); (· rfl)))
     have hcp := run_copy_page B (writeBy m a (s.data.toList.take t)) k (y / 64) (y % 64) (64 - y % 64) 3 z (by omega) (by omega)
     rw [hcp]
     simp only [Result.andThen]
     rw [Oper.upon_value]
     clear hcp hsl HC
     obtain ⟨q, hq⟩ : ∃ q, q = Nat.min z.size (64 - y % 64) := ⟨_, rfl⟩
     have hq1 : q ≤ z.size := by rw [hq]; exact Nat.min_le_left _ _
     have hq2 : q ≤ 64 - y % 64 := by rw [hq]; exact Nat.min_le_right _ _
     have hq3 : 0 < q := by rw [hq]; exact Nat.lt_min.2 ⟨by omega, by omega⟩
     rw [← hq]
     clear hq
     have hx7 : 0 ≤ x ∧ x < 768 := by rw [HX.out, ← HY.out]; omega
     have hll : (s.data.toList.take t).length = t := by rw [List.length_take, ← Lib.size_eq]; omega
     have HW := hide (show writeBy (writeBy m a (s.data.toList.take t)) (y / 64 * 64 + y % 64) (z.data.toList.take q) = writeBy m a (s.data.toList.take (t + q)) by
      have h1 := writeBy_app m a (s.data.toList.take t) ((s.data.toList.drop t).take q)
      rw [hll, ← HZ.out, ← HY.out] at h1
      rw [show y / 64 * 64 + y % 64 = y by omega, h1, HZ.out, ← List.take_add])
     go_wp2
     go_round
     case rel =>
      refine ⟨t + q, x + q, _, by omega, rfl, rfl, ?_, by rw [HW.out], hide (by rw [HX.out]; omega), hide ?_⟩
      ·
       simp; omega
      ·
       rw [Lib.extract_data, HZ.out, List.drop_drop, List.take_of_length_le (by rw [List.length_drop, ← Lib.size_eq]; omega)]
     case measure => simp [strLen]; omega
    ·
     obtain rfl : t = s.size := by omega
     have hz0 : z.size = 0 := by omega
     have HE := hide (show s.data.toList.take s.size = s.data.toList from List.take_of_length_le (by rw [← Lib.size_eq]; exact Nat.le_refl _))
     go_wp2
     go_ret
     exact ⟨rfl, k, by rw [HE.out]⟩
end Go.Proofs.YtklibmijiecbfaaGreat.Mm

/- What TopMem calls besides: is. -/
namespace Go.Proofs.YtklibmijiecbfaaGreat.Bp
end Go.Proofs.YtklibmijiecbfaaGreat.Bp
namespace Go.Proofs.YtklibmijiecbfaaGreat.Mm
open Go.Proofs.YtklibmijiecbfaaGreat.Bp
open Go.RowKit

end Go.Proofs.YtklibmijiecbfaaGreat.Mm

/- What threads do leaves the pages from 8 on: no walk in it. -/
namespace Go.Proofs.YtklibmijiecbfaaGreat.Bp
end Go.Proofs.YtklibmijiecbfaaGreat.Bp
namespace Go.Proofs.YtklibmijiecbfaaGreat.Mm
open Go.Proofs.YtklibmijiecbfaaGreat.Bp
open Go.RowKit

def high (m m' : MS) : Prop := (∀ n, 8 ≤ n → m'.rd n = m.rd n ∧ m'.wt n = m.wt n) ∧ ∀ x, 512 ≤ x → m'.byte x = m.byte x
theorem high_refl (m : MS) : high m m := ⟨fun _ _ => ⟨rfl, rfl⟩, fun _ _ => rfl⟩
theorem high_trans {a b c : MS} (h : high a b) (g : high b c) : high a c :=
 ⟨fun n hn => ⟨(g.1 n hn).1.trans (h.1 n hn).1, (g.1 n hn).2.trans (h.1 n hn).2⟩, fun x hx => (g.2 x hx).trans (h.2 x hx)⟩
theorem high_map (m : MS) (n : Nat) (hn : n < 8) (b : Bool) : high m (setWt (setRd m n true) n b) :=
 ⟨fun k hk => ⟨if_neg (by omega), if_neg (by omega)⟩, fun _ _ => rfl⟩
theorem high_write (m : MS) (a : Nat) (l : List UInt8) (h : a + l.length ≤ 512) : high m (writeBy m a l) :=
 ⟨fun _ _ => ⟨rfl, rfl⟩, fun x hx => if_neg (by omega)⟩
theorem high_drop (m : MS) (n : Nat) (hn : n < 8) : high m (dropM m n) :=
 high_trans (b := setWt (setRd m n false) n false) ⟨fun k hk => ⟨if_neg (by omega), if_neg (by omega)⟩, fun _ _ => rfl⟩ (high_write _ _ _ (by rw [Z64_len]; omega))
theorem high_put (m : MS) (a : Nat) (l : List UInt8) (ha : a < 18446744073709551616) (hw : ∀ n, 8 ≤ n → n < 12 → m.wt n = false) (hg : ∀ i, i < l.length → goodM m (addrI a i)) : high m (writeBy m a l) := by
 by_cases h0 : 0 < l.length
 ·
  have hf := good_fits ha hg h0
  refine high_write m a l ?_
  rcases Nat.lt_or_ge 512 (a + l.length) with h | h
  ·
   obtain ⟨h1, h2⟩ := hg (l.length - 1) (by omega)
   unfold addrI at h1 h2
   rw [Nat.mod_eq_of_lt (by omega)] at h1 h2
   rw [hw _ (by omega) (by omega)] at h2
   cases h2
  ·
   exact h
 ·
  obtain rfl : l = [] := List.eq_nil_of_length_eq_zero (by omega)
  rw [writeBy_nil]
  exact high_refl m

def bytesOk (m : MS) : Prop := ∀ x, m.byte x < 256
theorem bytesOk_write {m : MS} (h : bytesOk m) (a : Nat) (l : List UInt8) : bytesOk (writeBy m a l) := fun x => by
 show (if _ then _ else _) < 256
 split
 ·
  exact UInt8.toNat_lt _
 ·
  exact h x
theorem bytesOk_zero : bytesOk zeroM := fun _ => Nat.zero_lt_succ 255
end Go.Proofs.YtklibmijiecbfaaGreat.Mm

/- Acts that came in: a slice of them, cell by cell; LightActs. -/
namespace Go.Proofs.YtklibmijiecbfaaGreat.Bp
end Go.Proofs.YtklibmijiecbfaaGreat.Bp
namespace Go.Proofs.YtklibmijiecbfaaGreat.Mm
open Go.Proofs.YtklibmijiecbfaaGreat.Bp
open Go.RowKit

structure AC where
 kind : ByteArray
 n : Int
 a : Nat
 s : ByteArray
 wr : Bool
 c0 : Int
 c1 : Int
 c2 : Int
 c3 : Int
 c4 : Int
 c5 : Int
def AC.callOk (x : AC) : Prop := (0 ≤ x.c0 ∧ x.c0 < 4294967296) ∧ (0 ≤ x.c1 ∧ x.c1 < 4294967296) ∧ (0 ≤ x.c2 ∧ x.c2 < 18446744073709551616) ∧ (0 ≤ x.c3 ∧ x.c3 < 18446744073709551616) ∧ (0 ≤ x.c4 ∧ x.c4 < 18446744073709551616) ∧ (0 ≤ x.c5 ∧ x.c5 < 18446744073709551616)
structure ActAt (W : World) (b o : Nat) (x : AC) : Prop where
 k0 : W.cell? ⟨b, o, none⟩ = some (.string x.kind)
 k1 : W.cell? ⟨b, o + 1, none⟩ = some (.int .i64 x.n)
 k2 : W.cell? ⟨b, o + 2, none⟩ = some (.int .u64 x.a)
 k3 : W.cell? ⟨b, o + 3, none⟩ = some (.string x.s)
 k4 : W.cell? ⟨b, o + 4, none⟩ = some (.bool x.wr)
 k5 : W.cell? ⟨b, o + 5, none⟩ = some (.int .u32 x.c0)
 k6 : W.cell? ⟨b, o + 6, none⟩ = some (.int .u32 x.c1)
 k7 : W.cell? ⟨b, o + 7, none⟩ = some (.int .u64 x.c2)
 k8 : W.cell? ⟨b, o + 8, none⟩ = some (.int .u64 x.c3)
 k9 : W.cell? ⟨b, o + 9, none⟩ = some (.int .u64 x.c4)
 k10 : W.cell? ⟨b, o + 10, none⟩ = some (.int .u64 x.c5)
 kindLen : x.kind.size ≤ maxLen
 sLen : x.s.size ≤ maxLen
 aLt : x.a < 18446744073709551616
 nLo : -9223372036854775808 ≤ x.n
 nHi : x.n ≤ 9223372036854775807
 cOk : x.callOk
theorem ActAt.on {W V : World} {b o : Nat} {x : AC} (h : ActAt W b o x) (hc : ∀ j, V.cell? ⟨b, j, none⟩ = W.cell? ⟨b, j, none⟩) : ActAt V b o x :=
 ⟨(hc _).trans h.k0, (hc _).trans h.k1, (hc _).trans h.k2, (hc _).trans h.k3, (hc _).trans h.k4, (hc _).trans h.k5, (hc _).trans h.k6, (hc _).trans h.k7, (hc _).trans h.k8, (hc _).trans h.k9, (hc _).trans h.k10, h.kindLen, h.sLen, h.aLt, h.nLo, h.nHi, h.cOk⟩

structure IsActs (oa : Option Addr) (n : Nat) (L : Nat → AC) (W : World) : Prop where
 lie : 0 < n → ∃ b off, oa = some ⟨b, off, none⟩ ∧ b < W.heap.size ∧ ∀ i, i < n → ActAt W b (off + i * 11) (L i)
theorem IsActs.on {oa : Option Addr} {n : Nat} {L : Nat → AC} {W V : World} (h : IsActs oa n L W) (hb : Below W.heap.size W V) : IsActs oa n L V :=
 ⟨fun h0 => by
  obtain ⟨b, off, h1, h2, h3⟩ := h.lie h0
  exact ⟨b, off, h1, Nat.lt_of_lt_of_le h2 hb.size, fun i hi => (h3 i hi).on fun j => (bcell hb).1 b j h2⟩⟩

def lightR (n : Nat) (L : Nat → AC) (most : Int) : Bool := decide ((n : Int) ≤ most) && (List.range n).all fun i => decide ((L i).s.size ≤ 200)

theorem light_any (oa : Option Addr) (n cap : Nat) (hn : n ≤ 9223372036854775807) (L : Nat → AC) (most : Int) (w : World) (h : IsActs oa n L w) :
  Calls Tryz.prog 6 #[.slice oa n cap, .int .i64 most] w fun e w' => e = .returned (.bool (lightR n L most)) ∧ w' = w := by
 by_cases hm : (n : Int) ≤ most
 ·
  have hd : decide (most < (n : Int)) = false := by simp; omega
  have hd2 : decide ((n : Int) ≤ most) = true := by simp; omega
  have HL := hide h
  clear h
  go_enter Tryz.func6, Tryz.ntmps6
  go_wp2
  go_loopw [5] (fun I w' => ∃ i : Nat, i ≤ n ∧ I = .int .i64 i ∧ w' = w ∧ Hid (∀ j, j < i → (L j).s.size ≤ 200)) (fun I _ => n - (intOf I).toNat)
  case atStart => exact ⟨0, by omega, rfl, rfl, hide (fun j hj => by omega)⟩
  case round =>
   obtain ⟨i, hi, rfl, rfl, HG⟩ := hrel
   by_cases hlt : i < n
   ·
    obtain ⟨b, off, rfl, hb, hA⟩ := HL.out.lie (by omega)
    have hc := (hA i hlt).k3
    have hsl := (hA i hlt).sLen
    unfold maxLen at hsl
    by_cases h2 : (L i).s.size ≤ 200
    ·
     have HG2 := hide (show ∀ j, j < i + 1 → (L j).s.size ≤ 200 from fun j hj => by
      by_cases hji : j < i
      ·
       exact HG.out j hji
      ·
       rw [show j = i by omega]; exact h2)
     have d2 : decide ((200 : Int) < ((L i).s.size : Int)) = false := by simp; omega
     clear hA h2
     go_wp2
     go_round
     case rel => exact ⟨i + 1, by omega, by go_num, trivial, HG2⟩
     case measure => simp [intOf]; omega
    ·
     have HF := hide (show lightR n L most = false by
      unfold lightR
      rw [hd2, Bool.true_and, List.all_eq_false]
      exact ⟨i, List.mem_range.2 hlt, by simpa using h2⟩)
     have d2 : decide ((200 : Int) < ((L i).s.size : Int)) = true := by simp; omega
     clear hA h2
     go_wp2
     go_ret
     exact ⟨by rw [HF.out]; rfl, rfl⟩
   ·
    have HT := hide (show lightR n L most = true by
     unfold lightR
     rw [hd2, Bool.true_and, List.all_eq_true]
     intro j hj
     rw [List.mem_range] at hj
     simpa using HG.out j (by omega))
    go_wp2
    go_ret
    exact ⟨by rw [HT.out]; rfl, rfl⟩
 ·
  have hd : decide (most < (n : Int)) = true := by simp; omega
  have HF := hide (show lightR n L most = false by unfold lightR; rw [show decide ((n : Int) ≤ most) = false by simp; omega]; rfl)
  go_enter Tryz.func6, Tryz.ntmps6
  go_wp2
  go_ret
  exact ⟨by rw [HF.out]; rfl, rfl⟩
end Go.Proofs.YtklibmijiecbfaaGreat.Mm

/- touch: what threads do. -/
namespace Go.Proofs.YtklibmijiecbfaaGreat.Bp
end Go.Proofs.YtklibmijiecbfaaGreat.Bp
namespace Go.Proofs.YtklibmijiecbfaaGreat.Mm
open Go.Proofs.YtklibmijiecbfaaGreat.Bp
open Go.RowKit
attribute [local go_sem] PW_drew PW_drewN PW_fro

structure Fine (m : MS) : Prop where
 bytes : bytesOk m
 wt : ∀ n, 8 ≤ n → n < 12 → m.wt n = false

theorem high_fine {m m' : MS} (h : Fine m) (hh : high m m') (hb : bytesOk m → bytesOk m') : Fine m' := ⟨hb h.bytes, fun n h8 h12 => ((hh.1 n h8).2).trans (h.wt n h8 h12)⟩
end Go.Proofs.YtklibmijiecbfaaGreat.Mm

/- The walk of the law TopMem. -/
namespace Go.Proofs.YtklibmijiecbfaaGreat.Bp
end Go.Proofs.YtklibmijiecbfaaGreat.Bp
namespace Go.Proofs.YtklibmijiecbfaaGreat.Mm
open Go.Proofs.YtklibmijiecbfaaGreat.Bp
open Go.RowKit

theorem fine_zero : Fine zeroM := ⟨bytesOk_zero, fun _ _ _ => rfl⟩
theorem getR_of {m : MS} {a : Nat} {l : List Nat} : ∀ n, n ≤ l.length → (∀ i, i < n → peek m (addrI a i) = some (l.getD i 0)) → getR m a n = some (l.take n)
 | 0, _, _ => by rw [getR, List.take_zero]
 | n + 1, hl, h => by
  rw [getR, getR_of n (by omega) fun i hi => h i (by omega), Option.bind_some, h n (by omega), Option.map_some, List.take_add_one, List.getD_eq_getElem?_getD, List.getElem?_eq_getElem (show n < l.length by omega)]
  rfl
theorem bytesOf_toNat (l : List UInt8) : bytesOf (l.map UInt8.toNat) = l := by
 unfold bytesOf
 rw [List.map_map]
 conv => rhs; rw [← List.map_id l]
 exact List.map_congr_left fun x _ => by simp
theorem get_sealed {m : MS} {q : Nat} {l : List UInt8} (hq : q < 12) (hl : l.length ≤ 64) (hr : m.rd q = true) (hb : ∀ i, i < l.length → m.byte (q * 64 + i) = (l.getD i 0).toNat) : getR m (q * 64) l.length = some (l.map UInt8.toNat) := by
 have h := getR_of (m := m) (a := q * 64) (l := l.map UInt8.toNat) l.length (by simp) fun i hi => by
  unfold peek addrI
  rw [Nat.mod_eq_of_lt (by omega), if_pos ⟨by omega, by rw [show (q * 64 + i) / 64 = q by omega]; exact hr⟩, hb i hi]
  congr 1
  rw [List.getD_eq_getElem?_getD, List.getD_eq_getElem?_getD, List.getElem?_map]
  cases l[i]? <;> rfl
 rw [h, List.take_of_length_le (by simp)]
theorem seal_rd (m : MS) (q n : Nat) (l : List UInt8) : (sealM m q l).rd n = if n = q then true else m.rd n := rfl
theorem drop_rd (m : MS) (q n : Nat) : (dropM m q).rd n = if n = q then false else m.rd n := rfl

theorem IsM.lt {g : Nat} {m : MS} {W : World} (h : IsM g m W) : g < W.heap.size := (Array.getElem?_eq_some_iff.1 h).1
end Go.Proofs.YtklibmijiecbfaaGreat.Mm

/- Text, Copy. -/
namespace Go.Proofs.YtklibmijiecbfaaGreat.Bp
end Go.Proofs.YtklibmijiecbfaaGreat.Bp
namespace Go.Proofs.YtklibmijiecbfaaGreat.Mm
open Go.Proofs.YtklibmijiecbfaaGreat.Bp
open Go.RowKit

def textP (p : Nat → Option Nat) (a : Nat) : Nat → Nat → List Nat → Nat × List Nat
 | 0, _, _ => (6, [])
 | f + 1, i, l => match p (addrI a i) with
  | none => (5, [])
  | some x => if x = 0 then (0, l) else textP p a f (i + 1) (l ++ [x])
def textV (r : Nat × List Nat) : Value := .tuple #[.string ⟨(bytesOf r.2).toArray⟩, if r.1 = 0 then .nilIface else .iface 82 (.int .i64 r.1)]

def TW (W : World) (f : Nat → Value) : World := W.alloc (.cells (VA 40 f) 200)
theorem TW_heap (W : World) (f : Nat → Value) : (TW W f).heap[W.heap.size]? = some (.cells (VA 40 f) 200 (0, 0)) := heap_alloc_new W _
theorem TW_isM {g : Nat} {m : MS} {W : World} (h : IsM g m W) (f : Nat → Value) : IsM g m (TW W f) := (heap_alloc_old W _ (h := (Array.getElem?_eq_some_iff.1 h).1)).trans h
theorem TW_cell (W : World) (f : Nat → Value) (i : Nat) (hi : i < 40) : (TW W f).cell? ⟨W.heap.size, i, none⟩ = some (f i) := by
 rw [cell_of_row _ _ i _ _ _ (TW_heap W f), VA_get 40 f i hi]
theorem TW_fro (W : World) (f : Nat → Value) (i : Nat) : (TW W f).frozen? ⟨W.heap.size, i, none⟩ = false := frozen_of_row _ _ i _ _ (TW_heap W f)
theorem TW_set (W : World) (f : Nat → Value) (i : Nat) (v : Value) : (TW W f).setCell ⟨W.heap.size, i, none⟩ v = TW W (updV f i v) := by
 rw [setCell_eq_setRow _ _ i _ _ _ _ (TW_heap W f), VA_set]
 exact World.setRow_alloc_new W _ _ _
theorem TW_below (W : World) (f : Nat → Value) : Below W.heap.size W (TW W f) := (Below.refl _ _).alloc (Nat.le_refl _) _
theorem zero40 : (#[.int .u8 0, .int .u8 0, .int .u8 0, .int .u8 0, .int .u8 0, .int .u8 0, .int .u8 0, .int .u8 0, .int .u8 0, .int .u8 0, .int .u8 0, .int .u8 0, .int .u8 0, .int .u8 0, .int .u8 0, .int .u8 0, .int .u8 0, .int .u8 0, .int .u8 0, .int .u8 0, .int .u8 0, .int .u8 0, .int .u8 0, .int .u8 0, .int .u8 0, .int .u8 0, .int .u8 0, .int .u8 0, .int .u8 0, .int .u8 0, .int .u8 0, .int .u8 0, .int .u8 0, .int .u8 0, .int .u8 0, .int .u8 0, .int .u8 0, .int .u8 0, .int .u8 0, .int .u8 0] : Array Value) = VA 40 (rowL []) := by
 rw [VA_eq]
 kernel_rfl
theorem conv_text (W : World) (l : List Nat) (hl : ∀ x ∈ l, x < 256) (h40 : l.length ≤ 40) : (convert 132 9 (.slice (some ⟨W.heap.size, 0, none⟩) l.length 40)).run Tryz.prog (TW W (rowL l)) = .ok (.string ⟨(bytesOf l).toArray⟩) (TW W (rowL l)) := by
 have hb : (bytesOf l).length = l.length := by unfold bytesOf; rw [List.length_map]
 have h := run_convert_bytes_back (P := Tryz.prog) (TW W (rowL l)) 132 9 5 ⟨W.heap.size, 0, none⟩ 40 (bytesOf l) Tryz.underlying132 Tryz.underlying5 Tryz.underlying9 fun j hj => by
  have hj' : j < l.length := by rw [hb] at hj; exact hj
  rw [show (⟨W.heap.size, 0, none⟩ : Addr).add j = ⟨W.heap.size, j, none⟩ by simp [Addr.add]; omega, TW_cell W _ j (by omega)]
  unfold rowL
  rw [bytesOf_get l j hj hj', List.getD_eq_getElem?_getD, List.getElem?_eq_getElem hj']
  have hx := hl _ (List.getElem_mem hj')
  rw [Option.getD_some, UInt8.toNat_ofNat', Nat.mod_eq_of_lt (show l[j] < 2 ^ 8 from hx)]
 rw [hb] at h
 exact h

theorem slice_text (g i : Nat) (hi : i ≤ 40) (W : World) : (Instr.sliceAt 200 (.pointer (some ⟨g, 0, none⟩)) none (some (.int .i64 (i : Int))) none).run Tryz.prog W = .ok (.slice (some ⟨g, 0, none⟩) i 40) W := by
 have hal : Tryz.prog.arrayLen 200 = 40 := by kernel_rfl
 rw [run_sliceAt_array_h W 200 ⟨g, 0, none⟩ (by kernel_rfl) .i64 (i : Int) (by omega) (by rw [hal]; omega)]
 rw [hal, show Tryz.prog.elem 200 = 5 by kernel_rfl, Tryz.sizeOf5 W, Result.andThen_ok, Int.toNat_natCast]
 unfold slicedAt
 simp [Addr.add]
set_option maxRecDepth 20000 in
theorem text_any {g : Nat} {m : MS} {W : World} (hM : IsM g m W) (a : Nat) (_ha : a < 18446744073709551616) (hlt : ∀ x, m.byte x < 256) :
  Calls Tryz.prog 89 #[.pointer (some ⟨g, 0, none⟩), .int .u64 a] W fun e w' => e = .returned (textV (textP (peek m) a 41 0 [])) ∧ Below W.heap.size W w' := by
 have HLT := hide hlt
 have HM := hide hM
 clear _ha hlt hM
 obtain ⟨ai, hai⟩ : ∃ x : Int, x = (a : Int) := ⟨_, rfl⟩
 rw [← hai]
 have HAI := hide hai
 clear hai
 obtain ⟨R, hR⟩ : ∃ R, R = textP (peek m) a 41 0 [] := ⟨_, rfl⟩
 rw [← hR]
 replace hR := hide hR
 go_enter Tryz.func89, Tryz.ntmps89
 go_wp2_with fail
 rw [zero40]
 go_loopw [10] (fun I w' => ∃ (i : Nat) (l : List Nat), i ≤ 41 ∧ I = .int .i64 i ∧ w' = TW W (rowL l) ∧ Hid ((i ≤ 40 → l.length = i) ∧ l.length ≤ 40 ∧ textP (peek m) a (41 - i) i l = R ∧ ∀ x ∈ l, x < 256)) (fun I _ => 41 - (intOf I).toNat)
 case atStart => exact ⟨0, [], by omega, rfl, rfl, hide ⟨fun _ => rfl, by decide, hR.out.symm, fun x hx => by cases hx⟩⟩
 case round =>
  obtain ⟨i, l, hi, rfl, rfl, HG⟩ := hrel
  by_cases hlt : i < 41
  ·
   obtain ⟨x, hx⟩ : ∃ x : Int, x = ((addrI a i : Nat) : Int) := ⟨_, rfl⟩
   have hw : IntKind.u64.wrap (ai + i) = x := by
    rw [IntKind.wrap_u64, HAI.out, hx]
    unfold addrI
    omega
   have HC := byte_isM (TW_isM HM.out (rowL l)) (addrI a i) (Nat.mod_lt _ (by decide))
   rw [← hx] at HC
   clear hx
   have hG := HG.out
   rw [show 41 - i = (41 - (i + 1)) + 1 by omega, textP] at hG
   cases hp : peek m (addrI a i) with
   | none =>
    rw [hp] at HC hG
    simp only [byteV] at HC hG
    replace hG := hide hG
    go_wp2_with (go_at_call 53; refine HC.mono ?_; rintro e w' ⟨rfl, hww⟩; rw [hww]; clear hww w')
    go_ret2
    exact ⟨by rw [← hG.out.2.2.1]; rfl, TW_below _ _⟩
   | some y =>
    have hy : y < 256 := by
     unfold peek at hp
     split at hp
     ·
      rw [← Option.some.inj hp]; exact HLT.out _
     ·
      cases hp
    rw [hp] at HC hG
    simp only [byteV] at HC hG
    by_cases h0 : y = 0
    ·
     subst h0
     rw [if_pos rfl] at hG
     have hcv := conv_text W l hG.2.2.2 hG.2.1
     have hl : l.length = i := hG.1 (by omega)
     rw [hl] at hcv
     have hsl := slice_text W.heap.size i (by omega)
     replace hG := hide hG
     clear hl HG hp
     go_wp2_with (go_at_call 53; refine HC.mono ?_; rintro e w' ⟨rfl, hww⟩; rw [hww]; clear hww w')
     go_ret2
     exact ⟨by rw [← hG.out.2.2.1]; rfl, TW_below _ _⟩
    ·
     rw [if_neg h0] at hG
     have d0 : ((y : Int) == 0) = false := by rw [beq_eq_false_iff_ne]; omega
     by_cases h40 : i < 40
     ·
      have c1 := TW_cell W (rowL l) i h40
      have c2 := TW_fro W (rowL l)
      have c3 := TW_set W (rowL l) i (.int .u8 y)
      have HL := hide (show updV (rowL l) i (.int .u8 y) = rowL (l ++ [y]) by rw [← rowL_snoc, hG.1 (by omega)])
      have HN := hide (show ((i + 1 ≤ 40 → (l ++ [y]).length = i + 1) ∧ (l ++ [y]).length ≤ 40 ∧ textP (peek m) a (41 - (i + 1)) (i + 1) (l ++ [y]) = R ∧ ∀ x ∈ l ++ [y], x < 256) by
       have hl := hG.1 (by omega)
       refine ⟨fun _ => by rw [List.length_append, hl]; rfl, by rw [List.length_append, hl]; simp; omega, hG.2.2.1, fun x hx => ?_⟩
       rcases List.mem_append.1 hx with h | h
       ·
        exact hG.2.2.2 x h
       ·
        rw [List.mem_singleton.1 h]; exact hy)
      clear hG HG hp h0
      go_wp2_with (go_at_call 53; refine HC.mono ?_; rintro e w' ⟨rfl, hww⟩; rw [hww]; clear hww w')
      go_round
      case rel => exact ⟨i + 1, l ++ [y], by omega, by go_num, by rw [← HL.out], HN⟩
      case measure => simp [intOf]; omega
     ·
      have HN := hide (show ((i + 1 ≤ 40 → l.length = i + 1) ∧ l.length ≤ 40 ∧ textP (peek m) a (41 - (i + 1)) (i + 1) l = R ∧ ∀ x ∈ l, x < 256) from ⟨fun h => by omega, hG.2.1, by
       have h := hG.2.2.1
       rw [show 41 - (i + 1) = 0 by omega, textP] at h ⊢
       exact h, hG.2.2.2⟩)
      clear hG HG hp h0
      go_wp2_with (go_at_call 53; refine HC.mono ?_; rintro e w' ⟨rfl, hww⟩; rw [hww]; clear hww w')
      go_round
      case rel => exact ⟨i + 1, l, by omega, by go_num, rfl, HN⟩
      case measure => simp [intOf]; omega
  ·
   obtain rfl : i = 41 := by omega
   go_wp2
   go_ret2
   exact ⟨by rw [← HG.out.2.2.1]; rfl, TW_below _ _⟩
end Go.Proofs.YtklibmijiecbfaaGreat.Mm

/- Instructions and calls, as values and cells; the small functions of package bpf. -/
namespace Go.Proofs.YtklibmijiecbfaaGreat.Bp
open Go.RowKit

end Go.Proofs.YtklibmijiecbfaaGreat.Bp

/- checkInsn, Check. -/
namespace Go.Proofs.YtklibmijiecbfaaGreat.Bp
open Go.RowKit

def errV (f : Nat) : Value := if f = 0 then .nilIface else .iface 82 (.int .i64 f)

end Go.Proofs.YtklibmijiecbfaaGreat.Bp

/- Programs: Check, Run. -/
namespace Go.Proofs.YtklibmijiecbfaaGreat.Bp
open Go.RowKit

theorem errV_pos {f : Nat} (h : f ≠ 0) : errV f = .iface 82 (.int .i64 f) := if_neg h

end Go.Proofs.YtklibmijiecbfaaGreat.Bp

/- appendInsn, Bytes. -/
namespace Go.Proofs.YtklibmijiecbfaaGreat.Bp
open Go.RowKit

def u8s (l : List Nat) : List Value := l.map fun x : Nat => .int .u8 (x : Int)
theorem u8s_append (l q : List Nat) : u8s (l ++ q) = u8s l ++ u8s q := List.map_append
theorem u8s_len (l : List Nat) : (u8s l).length = l.length := List.length_map _
def kb (k : Nat) : List Nat := [k % 256, k / 256 % 256, k / 65536 % 256, k / 16777216 % 256]
theorem info_byte : ∃ i, Tryz.prog.info? 5 = some i ∧ i.zero = some (.int .u8 0) ∧ i.size = 1 ∧ i.bytes = 1 := by
 have hz : (Tryz.prog.info? 5).map (·.zero) = some (some (.int .u8 0)) := by kernel_rfl
 have hs : (Tryz.prog.info? 5).map (·.size) = some 1 := by kernel_rfl
 have hb : (Tryz.prog.info? 5).map (·.bytes) = some 1 := by kernel_rfl
 cases hq : Tryz.prog.info? 5 with
 | none => rw [hq] at hs; simp at hs
 | some i =>
  rw [hq] at hz hs hb
  simp at hz hs hb
  exact ⟨i, rfl, hz, hs, hb⟩

theorem wpList_append_u8 {ops : Array Oper} {rest : List Oper} {o : Oper} {a : Act} {w : World} {Q : Exit → Act → World → Prop} (hgd : o.guard = none) (s x : Operand)
  (ho : o.op = .call { callee := .builtin .append, args := #[s, x], argTypes := #[132, 132] })
  (base : Nat) (v : Value) (n : Nat) (l : List Nat) (hs : a.eval s = v) (hown : w.ownsRow base 5 1 v n (u8s l))
  (g m : Nat) (q : List Nat) (arr : Array Value) (hx : a.eval x = .slice (some ⟨g, 0, none⟩) m m) (hg : w.heap[g]? = some (.cells arr 5 (0, 0))) (hq : arr.toList = u8s q) (hm : q.length = m)
  (hn : n ≤ 10000000) (hm2 : m ≤ 1000) (hbase : base ≤ w.heap.size)
  (h : ∀ v' w', w'.ownsRow base 5 1 v' (n + m) (u8s (l ++ q)) → w.grownBy w' v.ownBlock → wpList Tryz.prog ops Q rest (a.put o.dst v') w') : wpList Tryz.prog ops Q (o :: rest) a w := by
 obtain ⟨i, hi, hz, hsz, hby⟩ := info_byte
 refine wpList_append_own (P := Tryz.prog) w hgd s x 132 ho base 5 i _ 1 1 Tryz.underlying132 hi hz hsz hby rfl (by decide) v n (u8s l) hs hown ⟨g, 0, none⟩ m m (u8s q) hx (by rw [u8s_len, hm, Nat.mul_one]) ?_ ?_ (by simp only [maxLen]; omega) (by omega) hbase ?_
 ·
  intro j u hu
  have hadd : (⟨g, 0, none⟩ : Addr).add j = ⟨g, j, none⟩ := by unfold Addr.add; split <;> simp_all
  rw [hadd, cell_of_row w g j _ _ _ hg, ← hu, ← hq, Array.getElem?_toList]
 ·
  intro u hu
  unfold u8s at hu
  rw [List.mem_map] at hu
  obtain ⟨y, _, rfl⟩ := hu
  rfl
 ·
  intro v' w' h1 h2 _
  rw [← u8s_append] at h1
  exact h v' w' h1 h2

end Go.Proofs.YtklibmijiecbfaaGreat.Bp

/- Run. -/
namespace Go.Proofs.YtklibmijiecbfaaGreat.Bp
open Go.RowKit

end Go.Proofs.YtklibmijiecbfaaGreat.Bp

/- Bytes. -/
namespace Go.Proofs.YtklibmijiecbfaaGreat.Bp
open Go.RowKit

def strB (l : List Nat) : ByteArray := ⟨(l.map UInt8.ofNat).toArray⟩

theorem conv_u8 {w : World} {base n : Nat} {v : Value} {l : List Nat} (hown : w.ownsRow base 5 1 v n (u8s l)) (hl : ∀ x ∈ l, x < 256) (hn : 0 < n) : (convert 132 9 v).run Tryz.prog w = .ok (.string (strB l)) w := by
 obtain ⟨g, cap, rfl⟩ := Go.Joins.ownsRow_form hown hn
 have hlen : l.length = n := by have := hown.1; rw [u8s_len] at this; omega
 have hb : (l.map UInt8.ofNat).length = n := by rw [List.length_map, hlen]
 have h := run_convert_bytes_back (P := Tryz.prog) w 132 9 5 ⟨g, 0, none⟩ cap (l.map UInt8.ofNat) Tryz.underlying132 Tryz.underlying5 Tryz.underlying9 fun j hj => by
  have hj' : j < l.length := by rw [hb] at hj; omega
  rw [hown.cells (g := g) rfl j (.int .u8 (l[j] : Nat)) (by unfold u8s; rw [List.getElem?_map, List.getElem?_eq_getElem hj']; rfl)]
  have hx := hl _ (List.getElem_mem hj')
  rw [List.getElem_map, UInt8.toNat_ofNat', Nat.mod_eq_of_lt (show l[j] < 2 ^ 8 from hx)]
 rw [hb] at h
 exact h
end Go.Proofs.YtklibmijiecbfaaGreat.Bp

/- The document's Free, Sealed, Get, Text. -/
namespace Go.Proofs.YtklibmijiecbfaaGreat.Bp
end Go.Proofs.YtklibmijiecbfaaGreat.Bp
namespace Go.Proofs.YtklibmijiecbfaaGreat.Mm
open Go.Proofs.YtklibmijiecbfaaGreat.Bp
open Go.RowKit
def cntR (r : RS) : Nat → Nat
 | 0 => 0
 | j + 1 => cntR r j + if r.is (8 + j) = 0 then 0 else 1
theorem cntR_le (r : RS) : ∀ j, cntR r j ≤ j
 | 0 => Nat.le_refl _
 | j + 1 => by have := cntR_le r j; rw [cntR]; split <;> omega
def getP (p : Nat → Option Nat) (a : Nat) : Nat → Option (List Nat)
 | 0 => some []
 | n + 1 => (getP p a n).bind fun l => (p (addrI a n)).map fun x => l ++ [x]
theorem getR_eq (m : MS) (a : Nat) : ∀ n, getR m a n = getP (peek m) a n
 | 0 => rfl
 | n + 1 => by rw [getR, getP, getR_eq m a n]
theorem getP_none {p : Nat → Option Nat} {a i : Nat} (h : getP p a i = none) : ∀ n, i ≤ n → getP p a n = none
 | 0, hn => by rw [show i = 0 by omega] at h; exact h
 | n + 1, hn => by
  by_cases he : i = n + 1
  ·
   rw [← he]; exact h
  ·
   rw [getP, getP_none h n (by omega)]; rfl
def rgetV : Option (List Nat) → Value
 | none => .tuple #[.string ⟨#[]⟩, .int .i64 5]
 | some l => .tuple #[.string ⟨(bytesOf l).toArray⟩, .int .i64 0]
theorem conv_nil (w : World) : (convert 132 9 (.slice none 0 0)).run Tryz.prog w = .ok (.string ⟨(bytesOf []).toArray⟩) w := by
 kernel_rfl
theorem conv_row8 {w : World} {base n : Nat} {v : Value} {l : List Nat} (hown : w.ownsRow base 5 1 v n (u8s l)) (hl : ∀ x ∈ l, x < 256) : (convert 132 9 v).run Tryz.prog w = .ok (.string ⟨(bytesOf l).toArray⟩) w := by
 by_cases h0 : 0 < n
 ·
  exact conv_u8 hown hl h0
 ·
  obtain rfl : n = 0 := by omega
  have hl0 : l = [] := by
   have h := hown.1
   rw [u8s_len] at h
   exact List.eq_nil_of_length_eq_zero (by omega)
  subst hl0
  rcases Go.Joins.ownsRow_forms hown with ⟨rfl, _⟩ | ⟨g, cap, rfl⟩
  ·
   exact conv_nil w
  ·
   have h := run_convert_bytes_back (P := Tryz.prog) w 132 9 5 ⟨g, 0, none⟩ cap [] Tryz.underlying132 Tryz.underlying5 Tryz.underlying9 fun j hj => by cases hj
   exact h

end Go.Proofs.YtklibmijiecbfaaGreat.Mm

/- The document's memory at an offset: Free, Sealed, Get. -/
namespace Go.Proofs.YtklibmijiecbfaaGreat.Vr
open Go.RowKit Mm Bp
attribute [local go_sem] RW_drew RW_drewN RW_fro

theorem IsR.lt {g : LY} {r : RS} {W : World} (h : IsR g r W) : g.g < W.heap.size := (Array.getElem?_eq_some_iff.1 h).1
theorem IsR.on {g : LY} {r : RS} {W V : World} (h : IsR g r W) (hb : Below W.heap.size W V) : IsR g r V := (hb.block g.g h.lt).trans h

theorem rfree_none (B : RB) (r : RS) (k a : Nat) (ha : a < 18446744073709551616) (hno : ¬ (a % 64 = 0 ∧ 8 ≤ a / 64 ∧ a / 64 ≤ 11 ∧ r.is (a / 64) ≠ 0)) :
  Calls Tryz.prog 117 #[.pointer (some ⟨B.g.g, B.g.o, none⟩), .int .u64 a] (RW B r k) fun e w' => e = .returned (.int .i64 8) ∧ w' = RW B r k := by
 obtain ⟨q, hq⟩ : ∃ q : Nat, q = a / 64 := ⟨_, rfl⟩
 obtain ⟨t, ht⟩ : ∃ t : Nat, t = a % 64 := ⟨_, rfl⟩
 have hw : IntKind.u64.wrap ((a : Int) / 64) = (q : Int) := by rw [IntKind.wrap_u64, hq]; omega
 have hv : IntKind.u64.wrap ((a : Int) % 64) = (t : Int) := by rw [IntKind.wrap_u64, ht]; omega
 have hv2 : (a : Int) % 64 = (t : Int) := by omega
 have hw2 : (a : Int) / 64 = (q : Int) := by omega
 rw [← hq, ← ht] at hno
 have hq2 : q < 288230376151711744 := by omega
 clear hq ht ha
 by_cases h1 : t = 0
 ·
  by_cases h2 : 8 ≤ q
  ·
   by_cases h3 : q ≤ 11
   ·
    have c1 := RW_is B r k q (by omega)
    have h4 : r.is q = 0 := Classical.byContradiction fun h => hno ⟨h1, h2, h3, h⟩
    rw [h4] at c1
    subst h1
    go_enter Tryz.func117, Tryz.ntmps117
    go_wp2
    go_ret
    exact ⟨rfl, rfl⟩
   ·
    have h5 : (11 : Int) < (q : Int) := by omega
    have h6 : ¬ (q : Int) < 8 := by omega
    subst h1
    clear hno
    go_enter Tryz.func117, Tryz.ntmps117
    go_wp2
    go_ret
    exact ⟨rfl, rfl⟩
  ·
   have h5 : (q : Int) < 8 := by omega
   subst h1
   clear hno
   go_enter Tryz.func117, Tryz.ntmps117
   go_wp2
   go_ret
   exact ⟨rfl, rfl⟩
 ·
  have h5 : (0 : Int) < (t : Int) := by omega
  clear hno
  go_enter Tryz.func117, Tryz.ntmps117
  go_wp2
  go_ret
  exact ⟨rfl, rfl⟩
theorem rfree_ok (B : RB) (r : RS) (k q : Nat) (h8 : 8 ≤ q) (h11 : q ≤ 11) (h0 : r.is q ≠ 0) :
  Calls Tryz.prog 117 #[.pointer (some ⟨B.g.g, B.g.o, none⟩), .int .u64 ((q * 64 : Nat) : Int)] (RW B r k) fun e w' => e = .returned (.int .i64 0) ∧ w' = RW B (setIs r q 0) k := by
 have c1 := RW_is B r k q (by omega)
 have c2 := RW_setIs B r k q 0 (by omega)
 have d : ((r.is q : Int) == 0) = false := by rw [beq_eq_false_iff_ne]; omega
 obtain ⟨a, ha⟩ : ∃ a : Nat, a = q * 64 := ⟨_, rfl⟩
 rw [← ha]
 have hv2 : (a : Int) % 64 = 0 := by omega
 have hw2 : (a : Int) / 64 = (q : Int) := by omega
 have ha2 : a < 1000 := by omega
 clear ha
 go_enter Tryz.func117, Tryz.ntmps117
 go_wp2
 go_ret
 exact ⟨rfl, c2⟩

theorem rsealed_any (B : RB) (r : RS) (k : Nat) : Calls Tryz.prog 73 #[.pointer (some ⟨B.g.g, B.g.o, none⟩)] (RW B r k) fun e w' => e = .returned (.int .i64 (cntR r 4)) ∧ w' = RW B r k := by
 go_enter Tryz.func73, Tryz.ntmps73
 go_wp2
 go_loopw [3, 4] (fun K N w' => ∃ n : Nat, 8 ≤ n ∧ n ≤ 12 ∧ K = .int .i64 (cntR r (n - 8)) ∧ N = .int .i64 n ∧ w' = RW B r k) (fun _ N _ => 12 - (intOf N).toNat)
 case atStart => exact ⟨8, by omega, by omega, rfl, rfl, rfl⟩
 case round =>
  obtain ⟨n, h8, h12, rfl, rfl, rfl⟩ := hrel
  have hc := cntR_le r (n - 8)
  by_cases hlt : n < 12
  ·
   have c1 := RW_is B r k n hlt
   have HC := hide (show cntR r (n + 1 - 8) = cntR r (n - 8) + if r.is n = 0 then 0 else 1 by rw [show n + 1 - 8 = (n - 8) + 1 by omega, cntR, show 8 + (n - 8) = n by omega])
   by_cases h0 : r.is n = 0
   ·
    rw [h0] at c1
    rw [if_pos h0] at HC
    clear h0
    go_wp2
    go_round
    case rel => exact ⟨n + 1, by omega, by omega, by rw [HC.out]; rfl, by go_num, trivial⟩
    case measure => simp [intOf]; omega
   ·
    have h1 : (0 : Int) < (r.is n : Int) := by omega
    rw [if_neg h0] at HC
    go_wp2
    go_round
    case rel => exact ⟨n + 1, by omega, by omega, by rw [HC.out]; rfl, by go_num, trivial⟩
    case measure => simp [intOf]; omega
  ·
   obtain rfl : n = 12 := by omega
   go_wp2
   go_ret
   exact ⟨rfl, rfl⟩

theorem rbyte_isR {g : LY} {r : RS} {W : World} (h : IsR g r W) (a : Nat) (ha : a < 18446744073709551616) :
  Calls Tryz.prog 74 #[.pointer (some ⟨g.g, g.o, none⟩), .int .u64 a] W fun e w' => e = .returned (rbyteV (rpeek r a)) ∧ w' = W := by
 have hb := rbyte_any ⟨W, g, r, h⟩ r 0 a ha
 rw [← RW_of h] at hb
 exact hb

set_option maxRecDepth 20000 in
theorem rget_any {g : LY} {r : RS} {W : World} (hM : IsR g r W) (a n : Nat) (_ha : a < 18446744073709551616) (hn : n ≤ 512) (hlt : ∀ x, r.by' x < 256) :
  Calls Tryz.prog 120 #[.pointer (some ⟨g.g, g.o, none⟩), .int .u64 a, .int .i64 n] W fun e w' => e = .returned (rgetV (getP (rpeek r) a n)) ∧ Below W.heap.size W w' := by
 have HLT := hide hlt
 have HM := hide hM
 clear _ha hlt hM
 obtain ⟨ai, hai⟩ : ∃ x : Int, x = (a : Int) := ⟨_, rfl⟩
 rw [← hai]
 have HAI := hide hai
 clear hai
 go_enter Tryz.func120, Tryz.ntmps120
 go_wp2
 go_loopw [8, 9] (fun V I wr => ∃ (i : Nat) (l : List Nat), i ≤ n ∧ I = .int .i64 i ∧ Hid (wr.ownsRow W.heap.size 5 1 V i (u8s l)) ∧ Hid (Below W.heap.size W wr) ∧ Hid (getP (rpeek r) a i = some l ∧ ∀ x ∈ l, x < 256)) (fun _ I _ => n - (intOf I).toNat)
 case atStart => exact ⟨0, [], by omega, rfl, hide (World.ownsRow_nil _ _ _ _), hide (Below.refl _ _), hide ⟨rfl, fun x hx => by cases hx⟩⟩
 case round =>
  obtain ⟨i, l, hi, rfl, HR, HB, HG⟩ := hrel
  by_cases hlt : i < n
  ·
   obtain ⟨x, hx⟩ : ∃ x : Int, x = ((addrI a i : Nat) : Int) := ⟨_, rfl⟩
   have hw : IntKind.u64.wrap (ai + i) = x := by
    rw [IntKind.wrap_u64, HAI.out, hx]
    unfold addrI
    omega
   have HC := rbyte_isR (HM.out.on HB.out) (addrI a i) (Nat.mod_lt _ (by decide))
   rw [← hx] at HC
   have HG2 := hide (show getP (rpeek r) a (i + 1) = (rpeek r (addrI a i)).map fun x => l ++ [x] by rw [getP, HG.out.1]; rfl)
   have hbs := HB.out.size
   clear hx
   cases hp : rpeek r (addrI a i) with
   | none =>
    have HV := hide (show getP (rpeek r) a n = none from getP_none (by rw [HG2.out, hp]; rfl) n (show i + 1 ≤ n by omega))
    rw [hp] at HC
    simp only [rbyteV] at HC
    go_wp2_with (go_at_call 74; refine HC.mono ?_; rintro e w' ⟨rfl, hww⟩; rw [hww]; clear hww w')
    go_ret2
    exact ⟨by rw [HV.out]; rfl, HB.out⟩
   | some y =>
    have hy : y < 256 := by
     unfold rpeek at hp
     split at hp
     ·
      rw [← Option.some.inj hp]; exact HLT.out _
     ·
      cases hp
    rw [hp] at HC HG2
    simp only [rbyteV] at HC
    go_wp2_with (first
     | (go_at_call 74; refine HC.mono ?_; rintro e w' ⟨rfl, hww⟩; rw [hww]; clear hww w')
     | (at_builtin; (refine wpList_append_u8 rfl _ _ rfl W.heap.size u8 i l ?_ ?_ wr.heap.size 1 [y] ?_ ?_ ?_ ?_ ?_ ?_ ?_ ?_ ?_); (· rfl); (· exact HR.out.alloc _); (· exact #[.int .u8 (y : Int)]); (· rfl); (· exact heap_alloc_new _ _); (· rfl); (· rfl); (· omega); (· omega); (· simp; omega); intro v2 w2 ho2 hg2))
    have HB2 := hide ((HB.out.alloc hbs _).grown hg2 (by simp; omega) fun k hk => (HR.out.lt k hk).1)
    have HO2 := hide ho2
    have HN := hide (And.intro HG2.out (show ∀ x ∈ l ++ [y], x < 256 from fun x hx => by
     rcases List.mem_append.1 hx with h | h
     ·
      exact HG.out.2 x h
     ·
      rw [List.mem_singleton.1 h]; exact hy))
    clear hg2 ho2
    go_round
    case rel => exact ⟨i + 1, l ++ [y], by omega, by go_num, HO2, HB2, HN⟩
    case measure => simp [intOf]; omega
  ·
   obtain rfl : i = n := by omega
   have hcv := conv_row8 HR.out HG.out.2
   go_wp2
   go_ret2
   exact ⟨by rw [HG.out.1]; rfl, HB.out⟩
end Go.Proofs.YtklibmijiecbfaaGreat.Vr

/- The document's Text. -/
namespace Go.Proofs.YtklibmijiecbfaaGreat.Bp
end Go.Proofs.YtklibmijiecbfaaGreat.Bp
namespace Go.Proofs.YtklibmijiecbfaaGreat.Mm
open Go.Proofs.YtklibmijiecbfaaGreat.Bp
open Go.RowKit

def rtextV (r : Nat × List Nat) : Value := .tuple #[.string ⟨(bytesOf r.2).toArray⟩, .int .i64 r.1]

end Go.Proofs.YtklibmijiecbfaaGreat.Mm

/- The document's memory at an offset: Text. -/
namespace Go.Proofs.YtklibmijiecbfaaGreat.Vr
open Go.RowKit Mm Bp

set_option maxRecDepth 20000 in
theorem rtext_any {g : LY} {r : RS} {W : World} (hM : IsR g r W) (a : Nat) (_ha : a < 18446744073709551616) (hlt : ∀ x, r.by' x < 256) :
  Calls Tryz.prog 119 #[.pointer (some ⟨g.g, g.o, none⟩), .int .u64 a] W fun e w' => e = .returned (rtextV (textP (rpeek r) a 41 0 [])) ∧ Below W.heap.size W w' := by
 have HLT := hide hlt
 have HM := hide hM
 clear _ha hlt hM
 obtain ⟨ai, hai⟩ : ∃ x : Int, x = (a : Int) := ⟨_, rfl⟩
 rw [← hai]
 have HAI := hide hai
 clear hai
 obtain ⟨R, hR⟩ : ∃ R, R = textP (rpeek r) a 41 0 [] := ⟨_, rfl⟩
 rw [← hR]
 replace hR := hide hR
 go_enter Tryz.func119, Tryz.ntmps119
 go_wp2
 go_loopw [6, 7] (fun V I wr => ∃ (i : Nat) (l : List Nat), i ≤ 40 ∧ I = .int .i64 i ∧ Hid (wr.ownsRow W.heap.size 5 1 V i (u8s l)) ∧ Hid (Below W.heap.size W wr) ∧ Hid (textP (rpeek r) a (41 - i) i l = R ∧ ∀ x ∈ l, x < 256)) (fun _ I _ => 41 - (intOf I).toNat)
 case atStart => exact ⟨0, [], by omega, rfl, hide (World.ownsRow_nil _ _ _ _), hide (Below.refl _ _), hide ⟨hR.out.symm, fun x hx => by cases hx⟩⟩
 case round =>
  obtain ⟨i, l, hi, rfl, HR, HB, HG⟩ := hrel
  obtain ⟨x, hx⟩ : ∃ x : Int, x = ((addrI a i : Nat) : Int) := ⟨_, rfl⟩
  have hw : IntKind.u64.wrap (ai + i) = x := by
   rw [IntKind.wrap_u64, HAI.out, hx]
   unfold addrI
   omega
  have HC := rbyte_isR (HM.out.on HB.out) (addrI a i) (Nat.mod_lt _ (by decide))
  rw [← hx] at HC
  clear hx
  have hbs := HB.out.size
  have hG := HG.out
  rw [show 41 - i = (41 - (i + 1)) + 1 by omega, textP] at hG
  cases hp : rpeek r (addrI a i) with
  | none =>
   rw [hp] at HC hG
   simp only [rbyteV] at HC hG
   replace hG := hide hG
   go_wp2_with (go_at_call 74; refine HC.mono ?_; rintro e w' ⟨rfl, hww⟩; rw [hww]; clear hww w')
   go_ret2
   exact ⟨by rw [← hG.out.1]; rfl, HB.out⟩
  | some y =>
   have hy : y < 256 := by
    unfold rpeek at hp
    split at hp
    ·
     rw [← Option.some.inj hp]; exact HLT.out _
    ·
     cases hp
   rw [hp] at HC hG
   simp only [rbyteV] at HC hG
   by_cases h0 : y = 0
   ·
    subst h0
    rw [if_pos rfl] at hG
    have hcv := conv_row8 HR.out hG.2
    replace hG := hide hG
    clear HG hp
    go_wp2_with (go_at_call 74; refine HC.mono ?_; rintro e w' ⟨rfl, hww⟩; rw [hww]; clear hww w')
    go_ret2
    exact ⟨by rw [← hG.out.1]; rfl, HB.out⟩
   ·
    rw [if_neg h0] at hG
    have d0 : ((y : Int) == 0) = false := by rw [beq_eq_false_iff_ne]; omega
    by_cases h40 : i = 40
    ·
     have HN := hide (show R = (6, []) by
      have h := hG.1
      rw [show 41 - (i + 1) = 0 by omega, textP] at h
      exact h.symm)
     have d40 : ((i : Int) == 40) = true := by rw [beq_iff_eq]; omega
     clear hG HG hp h0 h40
     go_wp2_with (go_at_call 74; refine HC.mono ?_; rintro e w' ⟨rfl, hww⟩; rw [hww]; clear hww w')
     go_ret2
     exact ⟨by rw [HN.out]; rfl, HB.out⟩
    ·
     have d40 : ((i : Int) == 40) = false := by rw [beq_eq_false_iff_ne]; omega
     have HN := hide (And.intro hG.1 (show ∀ x ∈ l ++ [y], x < 256 from fun x hx => by
      rcases List.mem_append.1 hx with h | h
      ·
       exact hG.2 x h
      ·
       rw [List.mem_singleton.1 h]; exact hy))
     clear hG HG hp h0
     go_wp2_with (first
      | (go_at_call 74; refine HC.mono ?_; rintro e w' ⟨rfl, hww⟩; rw [hww]; clear hww w')
      | (at_builtin; (refine wpList_append_u8 rfl _ _ rfl W.heap.size u6 i l ?_ ?_ wr.heap.size 1 [y] ?_ ?_ ?_ ?_ ?_ ?_ ?_ ?_ ?_); (· rfl); (· exact HR.out.alloc _); (· exact #[.int .u8 (y : Int)]); (· rfl); (· exact heap_alloc_new _ _); (· rfl); (· rfl); (· omega); (· omega); (· simp; omega); intro v2 w2 ho2 hg2))
     have HB2 := hide ((HB.out.alloc hbs _).grown hg2 (by simp; omega) fun k hk => (HR.out.lt k hk).1)
     have HO2 := hide ho2
     clear hg2 ho2
     go_round
     case rel => exact ⟨i + 1, l ++ [y], by omega, by go_num, HO2, HB2, HN⟩
     case measure => simp [intOf]; omega
end Go.Proofs.YtklibmijiecbfaaGreat.Vr

/- The document's Map. -/
namespace Go.Proofs.YtklibmijiecbfaaGreat.Bp
end Go.Proofs.YtklibmijiecbfaaGreat.Bp
namespace Go.Proofs.YtklibmijiecbfaaGreat.Mm
open Go.Proofs.YtklibmijiecbfaaGreat.Bp
open Go.RowKit
def zeroTo (r : RS) (a j : Nat) : RS := { r with by' := fun x => if a ≤ x ∧ x < a + j then 0 else r.by' x }
theorem zeroTo_step (r : RS) (a j : Nat) : zeroTo (setRB r a 0) (a + 1) j = zeroTo r a (j + 1) := by
 unfold zeroTo setRB
 congr 1
 funext x
 by_cases h : x = a
 ·
  subst h; simp
 ·
  by_cases h1 : a + 1 ≤ x ∧ x < a + 1 + j
  ·
   rw [if_pos h1, if_pos (by omega)]
  ·
   rw [if_neg h1, if_neg (by omega)]
   exact if_neg h
theorem zeroTo_zero (r : RS) (a : Nat) : zeroTo r a 0 = r := by
 unfold zeroTo
 have : (fun x => if a ≤ x ∧ x < a + 0 then 0 else r.by' x) = r.by' := by funext x; rw [if_neg (by omega)]
 rw [this]
theorem setIs_again (r : RS) (n x y : Nat) : setIs (setIs r n x) n y = setIs r n y := by
 unfold setIs
 congr 1
 funext k
 by_cases h : k = n
 ·
  simp [h]
 ·
  simp [h]
theorem size_page : (Tryz.prog.info? 85).map (·.size) = some 64 := by kernel_rfl
def rmapS (r : RS) (n : Nat) (b : Bool) : RS := setIs (if r.is n = 0 then zeroTo r (n * 64) 64 else r) n (if b then 2 else 1)
end Go.Proofs.YtklibmijiecbfaaGreat.Mm

/- The document's memory at an offset: Map. -/
namespace Go.Proofs.YtklibmijiecbfaaGreat.Vr
open Go.RowKit Mm Bp
attribute [local go_sem] RW_drew RW_drewN RW_fro

theorem RW_zero (B : RB) (k : Nat) : ∀ (j : Nat) (r : RS) (a : Nat), a + j ≤ 768 → (RW B r k).setCells B.g.g (B.g.o + (12 + a)) (List.replicate j (.int .u8 0)) = RW B (zeroTo r a j) k
 | 0, r, a, _ => by rw [zeroTo_zero]; rfl
 | j + 1, r, a, hj => by
  have h : (RW B r k).setCell ⟨B.g.g, B.g.o + (12 + a), none⟩ (.int .u8 0) = RW B (setRB r a 0) k := RW_set B r k (12 + a) _ (setRB r a 0) (by omega) (updR_by r a 0)
  rw [List.replicate_succ, World.setCells, h, show B.g.o + (12 + a) + 1 = B.g.o + (12 + (a + 1)) by omega, RW_zero B k j (setRB r a 0) (a + 1) (by omega), zeroTo_step]
theorem wpList_zero_page {ops : Array Oper} {rest : List Oper} {o : Oper} {a : Act} {Q : Exit → Act → World → Prop} (hgd : o.guard = none) (x y : Operand) (ho : o.op = .store 85 x y)
  (B : RB) (r : RS) (k n : Nat) (hn : n < 12) (hx : a.eval x = .pointer (some ⟨B.g.g, B.g.o + 12 + n * 64, none⟩)) (hy : a.eval y = .agg (List.replicate 64 (.int .u8 0)).toArray)
  (h : wpList Tryz.prog ops Q rest (a.put o.dst undef) (RW B (zeroTo r (n * 64) 64) k)) : wpList Tryz.prog ops Q (o :: rest) a (RW B r k) := by
 refine wpList_store_mid (P := Tryz.prog) hgd 85 x y ho B.g.g (B.g.o + 12 + n * 64) _ hx hy ?_ (by rw [size_page]; rfl) (all_oneCell_toArray fun v hv => by rw [List.eq_of_mem_replicate hv]; rfl) ?_
 ·
  intro j hj
  have hj' : j < 64 := by simpa using hj
  exact ⟨by rw [show B.g.o + 12 + n * 64 + j = B.g.o + (12 + n * 64 + j) by omega, RW_cell B r k _ (by omega)]; rfl, RW_fro B r k _⟩
 ·
  rw [show (List.replicate 64 (Value.int .u8 0)).toArray.toList = List.replicate 64 (.int .u8 0) from rfl, Nat.add_assoc B.g.o 12, RW_zero B k 64 r (n * 64) (by omega)]
  exact h

theorem rmap_bad (B : RB) (r : RS) (k : Nat) (n : Int) (b : Bool) (hn : ¬ (0 ≤ n ∧ n ≤ 7)) :
  Calls Tryz.prog 32 #[.pointer (some ⟨B.g.g, B.g.o, none⟩), .int .i64 n, .bool b] (RW B r k) fun e w' => e = .returned (.int .i64 5) ∧ w' = RW B r k := by
 by_cases h0 : n < 0
 ·
  go_enter Tryz.func32, Tryz.ntmps32
  go_wp2
  go_ret
  exact ⟨rfl, rfl⟩
 ·
  have h7 : 7 < n := by omega
  go_enter Tryz.func32, Tryz.ntmps32
  go_wp2
  go_ret
  exact ⟨rfl, rfl⟩
set_option maxRecDepth 20000 in
theorem rmap_ok (B : RB) (r : RS) (k n : Nat) (b : Bool) (hn : n < 8) :
  Calls Tryz.prog 32 #[.pointer (some ⟨B.g.g, B.g.o, none⟩), .int .i64 n, .bool b] (RW B r k) fun e w' => e = .returned (.int .i64 0) ∧ w' = RW B (rmapS r n b) k := by
 have c1 := fun r => RW_is B r k n (by omega)
 have c2 := fun r x => RW_setIs B r k n x (by omega)
 have c3 := fun r => c2 r 1
 have c4 := fun r => c2 r 2
 have e1 : ((1 : Nat) : Int) = 1 := rfl
 have e2 : ((2 : Nat) : Int) = 2 := rfl
 rw [e1] at c3
 rw [e2] at c4
 clear c2 e1 e2
 by_cases h0 : r.is n = 0
 ·
  have HS := hide (show rmapS r n b = setIs (zeroTo r (n * 64) 64) n (if b then 2 else 1) by unfold rmapS; rw [if_pos h0])
  have c0 := c1 r
  rw [h0] at c0
  cases b with
  | false =>
   go_enter Tryz.func32, Tryz.ntmps32
   go_wp2_with (refine wpList_zero_page rfl _ _ rfl B r k n (by omega) ?_ ?_ ?_; (· rfl); (· rfl))
   go_ret
   exact ⟨rfl, by rw [HS.out]; rfl⟩
  | true =>
   go_enter Tryz.func32, Tryz.ntmps32
   go_wp2_with (refine wpList_zero_page rfl _ _ rfl B r k n (by omega) ?_ ?_ ?_; (· rfl); (· rfl))
   go_ret
   exact ⟨rfl, by rw [HS.out, setIs_again]; rfl⟩
 ·
  have HS := hide (show rmapS r n b = setIs r n (if b then 2 else 1) by unfold rmapS; rw [if_neg h0])
  have d : ((r.is n : Int) == 0) = false := by rw [beq_eq_false_iff_ne]; omega
  cases b with
  | false =>
   go_enter Tryz.func32, Tryz.ntmps32
   go_wp2
   go_ret
   exact ⟨rfl, by rw [HS.out]; rfl⟩
  | true =>
   go_enter Tryz.func32, Tryz.ntmps32
   go_wp2
   go_ret
   exact ⟨rfl, by rw [HS.out, setIs_again]; rfl⟩
end Go.Proofs.YtklibmijiecbfaaGreat.Vr

/- Copy of memory. -/
namespace Go.Proofs.YtklibmijiecbfaaGreat.Bp
end Go.Proofs.YtklibmijiecbfaaGreat.Bp
namespace Go.Proofs.YtklibmijiecbfaaGreat.Mm
open Go.Proofs.YtklibmijiecbfaaGreat.Bp
open Go.RowKit

theorem VA_one (n : Nat) (f : Nat → Value) (h : ∀ i, (f i).oneCell' = true) : (VA n f).all (·.oneCell') = true := by
 rw [Array.all_eq_true_iff_forall_mem]
 intro v hv
 obtain ⟨i, hi, rfl⟩ := Array.mem_iff_getElem.1 hv
 have h1 := VA_get n f i (by rw [VA_size] at hi; exact hi)
 rw [Array.getElem?_eq_getElem hi] at h1
 rw [Option.some.inj h1]
 exact h i
theorem cellM_one (m : MS) (i : Nat) : (cellM m i).oneCell' = true := by
 unfold cellM
 split
 ·
  rfl
 ·
  split <;> rfl
theorem size_mem : (Tryz.prog.info? 114).map (·.size) = some 792 := by kernel_rfl

theorem copy_any {g : Nat} {m : MS} {W : World} (h : IsM g m W) :
  Calls Tryz.prog 47 #[.pointer (some ⟨g, 0, none⟩)] W fun e w' => e = .returned (.pointer (some ⟨W.heap.size, 0, none⟩)) ∧ IsM W.heap.size m w' ∧ Below W.heap.size W w' := by
 have HM := hide h
 clear h
 go_enter Tryz.func47, Tryz.ntmps47
 go_wp2_with (first
  | (refine wpList_load_row rfl 114 _ rfl g ?_ 114 (VA 792 (cellM m)) (0, 0) _ ?_ Tryz.underlying114 rfl (by rw [VA_size]; exact size_mem) ?_; (· rfl); (· exact HM.out))
  | (refine wpList_store_row rfl 114 _ _ rfl W.heap.size (VA 792 (cellM m)) ?_ ?_ 114 Tryz.zeroCells114 ?_ (by rw [VA_size]; exact size_mem) (by rw [zero_cells, VA_size, VA_size]) (VA_one _ _ (cellM_one m)) ?_; (· rfl); (· rfl); (· exact heap_alloc_new W _)))
 go_ret
 refine ⟨rfl, ?_, ?_⟩
 ·
  show (World.setRow _ _ _).heap[_]? = _
  exact setRow_heap _ _ _ _ _ _ (heap_alloc_new W _)
 ·
  rw [World.setRow_alloc_new]
  exact (Below.refl _ _).alloc (Nat.le_refl _) _
end Go.Proofs.YtklibmijiecbfaaGreat.Mm

/- The document's whole memory loaded and stored. -/
namespace Go.Proofs.YtklibmijiecbfaaGreat.Bp
end Go.Proofs.YtklibmijiecbfaaGreat.Bp
namespace Go.Proofs.YtklibmijiecbfaaGreat.Mm
open Go.Proofs.YtklibmijiecbfaaGreat.Bp
open Go.RowKit

theorem cellR_one (r : RS) (i : Nat) : (cellR r i).oneCell' = true := by
 unfold cellR
 split <;> rfl
theorem size_rmem : (Tryz.prog.info? 88).map (·.size) = some 780 := by kernel_rfl

end Go.Proofs.YtklibmijiecbfaaGreat.Mm

/- A string's bytes as numbers; '|' of numbers that share no bit. -/
namespace Go.Proofs.YtklibmijiecbfaaGreat
open Go.RowKit

def byteAt (s : ByteArray) (i : Nat) : Nat := (s.data.toList.getD i 0).toNat
theorem byteAt_lt (s : ByteArray) (i : Nat) : byteAt s i < 256 := (s.data.toList.getD i 0).toNat_lt
theorem byteAt_eq (s : ByteArray) (i : Nat) (h : i < s.size) : s[i].toNat = byteAt s i := by
 unfold byteAt
 rw [List.getD_eq_getElem?_getD, List.getElem?_eq_getElem (by rw [← Lib.size_eq]; exact h)]
 rfl
theorem or8 (a b : Nat) (hb : b < 256) : a * 256 ||| b = a * 256 + b := by
 have := Nat.shiftLeft_add_eq_or_of_lt (i := 8) (b := b) (by omega) a
 rw [Nat.shiftLeft_eq] at this
 exact this.symm
theorem u32_or8 (a b : Nat) (ha : a < 16777216) (hb : b < 256) : bits .or .u32 ((a : Int) * 256) (b : Int) = ((a * 256 + b : Nat) : Int) := by
 rw [show (a : Int) * 256 = ((a * 256 : Nat) : Int) by simp, u32_or_nat _ _ (by omega) (by omega), or8 a b hb]
theorem i64_or_nat (a b : Nat) (ha : a < 9223372036854775808) (hb : b < 9223372036854775808) : bits .or .i64 (a : Int) (b : Int) = ((a ||| b : Nat) : Int) := by
 have hx : a ||| b < 2 ^ 63 := Nat.or_lt_two_pow (by omega) (by omega)
 have h1 : (BitVec.ofInt 64 (a : Int)).toNat = a := by rw [BitVec.ofInt_natCast, BitVec.toNat_ofNat]; exact Nat.mod_eq_of_lt (by omega)
 have h2 : (BitVec.ofInt 64 (b : Int)).toNat = b := by rw [BitVec.ofInt_natCast, BitVec.toNat_ofNat]; exact Nat.mod_eq_of_lt (by omega)
 show IntKind.i64.wrap ((BitVec.ofInt 64 (a : Int) ||| BitVec.ofInt 64 (b : Int)).toNat : Int) = _
 rw [BitVec.toNat_or, h1, h2]
 rw [IntKind.wrap_i64]
 omega
theorem i64_or8 (a b : Nat) (ha : a < 256) (hb : b < 256) : bits .or .i64 ((a : Int) * 256) (b : Int) = ((a * 256 + b : Nat) : Int) := by
 rw [show (a : Int) * 256 = ((a * 256 : Nat) : Int) by simp, i64_or_nat _ _ (by omega) (by omega), or8 a b hb]
end Go.Proofs.YtklibmijiecbfaaGreat
