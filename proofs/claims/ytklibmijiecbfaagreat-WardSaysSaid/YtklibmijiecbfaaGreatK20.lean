/- The document's pointer. -/
import Derived.Test.YtklibmijiecbfaaGreatK13
import Derived.Test.YtklibmijiecbfaaGreatK19
import Derived.Test.YtklibmijiecbfaaGreatK14
import Derived.Test.YtklibmijiecbfaaGreatK16
import Derived.Test.YtklibmijiecbfaaGreatK2
import Derived.Test.YtklibmijiecbfaaGreatK12
import Derived.Laws.MakeOwn
namespace Go.Proofs.YtklibmijiecbfaaGreat
open Go.RowKit Mm

theorem nextPt_hit {nr j : Nat} (hj : j < 4) (hk : 2 ≤ kindAt nr j) : nextPt nr j = j := by
 have r4 : List.range 4 = [0, 1, 2, 3] := rfl
 rcases show j = 0 ∨ j = 1 ∨ j = 2 ∨ j = 3 by omega with rfl | rfl | rfl | rfl <;> simp [nextPt, r4, List.filter, hk]
theorem nextPt_miss {nr j : Nat} (hj : j < 4) (hk : ¬ 2 ≤ kindAt nr j) : nextPt nr j = nextPt nr (j + 1) := by
 have r4 : List.range 4 = [0, 1, 2, 3] := rfl
 have hk' : kindAt nr j < 2 := by omega
 rcases show j = 0 ∨ j = 1 ∨ j = 2 ∨ j = 3 by omega with rfl | rfl | rfl | rfl <;> simp [nextPt, r4, List.filter, hk]
theorem nextPt_end (nr : Nat) : nextPt nr 4 = 4 := rfl
set_option maxHeartbeats 1000000 in
set_option maxRecDepth 20000 in
theorem pointer_any (c : KL) (hc : c.nr ≤ 8) (i : Nat) (hi : i ≤ 4) (W : World) : Calls Tryz.prog 66 #[klV c, .int .i64 i] W fun e w' => e = .returned (.int .i64 (nextPt c.nr i : Nat)) ∧ Below W.heap.size W w' := by
 obtain ⟨V, hV, hB, hVs, hx⟩ := one_box W (klC c) 52
 have c1 := hx 1
 obtain ⟨nr, hnr⟩ : ∃ n, n = c.nr := ⟨_, rfl⟩
 unfold klV klC
 unfold klC at hV hx c1
 simp only [List.getElem?_toArray, List.getElem?_cons_zero, List.getElem?_cons_succ] at c1
 rw [← hnr] at hc c1
 have HB := hide hB
 have n1 : (nr : Int) < 100 := by omega
 have n2 : ¬ (100 : Int) < nr := by omega
 have n3 : IntKind.wrap .i64 (nr : Int) = nr := by rw [IntKind.wrap_i64] <;> omega
 have n4 : min (nr : Int) 100 = nr := by omega
 have HK := fun k hk w => dkind_any nr k (by omega) hk w
 rw [← hnr]
 clear hx hB
 go_enter Tryz.func66, Tryz.ntmps66
 go_wp2
 rw [← hnr] at hV ⊢
 rw [← hV]
 clear hV hnr
 go_loopw [1] (fun I w' => ∃ j : Nat, j ≤ 4 ∧ I = .int .i64 j ∧ w' = V ∧ Hid (nextPt nr j = nextPt nr i)) (fun I _ => 4 - (intOf I).toNat)
 case atStart => exact ⟨i, hi, rfl, rfl, hide rfl⟩
 case round =>
  obtain ⟨j, hj, rfl, rfl, HN⟩ := hrel
  by_cases hlt : j < 4
  ·
   have hl : (j : Int) < 4 := by omega
   have HKJ := fun w => HK j hlt w
   obtain ⟨kd, hkd⟩ : ∃ k, k = kindAt nr j := ⟨_, rfl⟩
   simp only [← hkd] at HKJ
   by_cases hk : 2 ≤ kd
   ·
    have hk' : (1 : Int) < kd := by omega
    have HV := hide (show nextPt nr i = j by rw [← HN.out]; exact nextPt_hit hlt (by rw [← hkd]; exact hk))
    clear hkd
    go_wp2_with (go_at_call 44; refine (HKJ _).mono ?_; rintro e w' ⟨rfl, hw⟩; rw [hw]; clear hw w')
    go_ret
    exact ⟨by rw [HV.out]; rfl, HB.out⟩
   ·
    have hk' : ¬ (1 : Int) < kd := by omega
    have HV := hide (show nextPt nr (j + 1) = nextPt nr i by rw [← HN.out]; exact (nextPt_miss hlt (by rw [← hkd]; exact hk)).symm)
    clear hkd
    go_wp2_with (go_at_call 44; refine (HKJ _).mono ?_; rintro e w' ⟨rfl, hw⟩; rw [hw]; clear hw w')
    go_round
    case rel => exact ⟨j + 1, by omega, by go_num, trivial, HV⟩
    case measure => simp [intOf]; omega
  ·
   have hl : ¬ (j : Int) < 4 := by omega
   have h4 : j = 4 := by omega
   have HV := hide (show nextPt nr i = 4 by rw [← HN.out, h4]; exact nextPt_end nr)
   go_wp2
   go_ret
   exact ⟨by rw [HV.out]; rfl, HB.out⟩
end Go.Proofs.YtklibmijiecbfaaGreat

/- follow. -/
namespace Go.Proofs.YtklibmijiecbfaaGreat
open Go.RowKit Mm

def followV (m : MS) (k a : Nat) : VL × Nat :=
 if k = 2 then (⟨⟨(bytesOf (Mm.textP (peek m) a 41 0 []).2).toArray⟩, 0, 0⟩, (Mm.textP (peek m) a 41 0 []).1)
 else match getR m a 16 with
  | none => (zeroVL, 5)
  | some l => valR 3 (bytesOf l)
set_option maxHeartbeats 1000000 in
theorem follow_any {g gm : Nat} {P : PV} {s : WS} {lv : Value} {W : World} (k a : Nat) (hk : k = 2 ∨ k = 3) (ha : a < 18446744073709551616) (hlt : ∀ x, s.mem.byte x < 256) (h : WX g gm P s lv W) :
  Calls Tryz.prog 61 #[.pointer (some ⟨g, 0, none⟩), .int .i64 k, .int .u64 a] W fun e w' => e = .returned (.tuple #[.agg (vlC (followV s.mem k a).1), errV (followV s.mem k a).2]) ∧ Below W.heap.size W w' := by
 obtain ⟨V, hV, hVh, hVb⟩ : ∃ V, V = W.alloc (.cells #[.string ⟨#[]⟩, .int .u32 0, .int .i64 0] 66) ∧ V.heap[W.heap.size]? = some (.cells #[.string ⟨#[]⟩, .int .u32 0, .int .i64 0] 66 (0, 0)) ∧ Below W.heap.size W V := ⟨_, rfl, heap_alloc_new _ _, box_below _ _⟩
 have hVl := (Array.getElem?_eq_some_iff.1 hVh).1
 have hX := h.on hVb
 have cp := hX.ptr
 have HT := Mm.text_any hX.mem a ha hlt
 have HG := get_any hX.mem a 16 ha (by omega) hlt
 unfold followV
 rcases hk with rfl | rfl
 ·
  rw [if_pos rfl]
  obtain ⟨⟨f, l⟩, hr⟩ : ∃ r, r = Mm.textP (peek s.mem) a 41 0 [] := ⟨_, rfl⟩
  rw [← hr] at HT
  rw [← hr]
  unfold Mm.textV at HT
  simp only at HT ⊢
  obtain ⟨q, hq⟩ : ∃ q : ByteArray, q = ⟨(bytesOf l).toArray⟩ := ⟨_, rfl⟩
  rw [← hq] at HT
  rw [← hq]
  obtain ⟨er, her⟩ : ∃ er : Value, er = errV f := ⟨_, rfl⟩
  rw [show (if f = 0 then Value.nilIface else .iface 82 (.int .i64 f)) = er from her.symm] at HT
  rw [← her]
  clear hq hr HG hX h her
  rw [hV] at cp
  go_enter Tryz.func61, Tryz.ntmps61
  go_wp2_with fail
  rw [← hV]
  refine HT.mono ?_
  rintro e X ⟨rfl, hX⟩
  have hXh := (hX.block _ hVl).trans hVh
  have HB := hide (below_next hVb hX)
  clear hV HT hX cp
  go_wp2_with (refine wpList_store_row rfl 66 _ _ rfl W.heap.size (vlC ⟨q, 0, 0⟩) rfl rfl 66 _ hXh size_vl rfl (vlC_one _) ?_)
  exact bodyPost_ret (v := .tuple #[.agg (vlC ⟨q, 0, 0⟩), er]) (results_vl rfl _ _ W.heap.size (vlC ⟨q, 0, 0⟩) _ rfl rfl rfl (setRow_heap _ _ _ _ _ _ hXh)) rfl ⟨rfl, below_setRow HB.out (Nat.le_refl _) _⟩
 ·
  rw [if_neg (by omega)]
  have hln : ∀ l, getR s.mem a 16 = some l → (bytesOf l).length ≤ 9000 := by
   intro l hl
   have := getR_len hl
   unfold bytesOf
   rw [List.length_map]
   omega
  cases hr : getR s.mem a 16 with
  | none =>
   rw [hr] at HG
   unfold getV at HG
   simp only at HG ⊢
   clear hr HT hX h hln
   rw [hV] at cp
   go_enter Tryz.func61, Tryz.ntmps61
   go_wp2_with fail
   rw [← hV]
   refine HG.mono ?_
   rintro e X ⟨rfl, hX⟩
   have hXh := (hX.block _ hVl).trans hVh
   have HB := hide (below_next hVb hX)
   clear hV HG hX cp
   go_wp2_with (refine wpList_store_row rfl 66 _ _ rfl W.heap.size (vlC zeroVL) rfl rfl 66 _ hXh size_vl rfl (vlC_one _) ?_)
   exact bodyPost_ret (v := .tuple #[.agg (vlC zeroVL), .iface 82 (.int .i64 5)]) (results_vl rfl _ _ W.heap.size (vlC zeroVL) _ rfl rfl rfl (setRow_heap _ _ _ _ _ _ hXh)) rfl ⟨rfl, below_setRow HB.out (Nat.le_refl _) _⟩
  | some l =>
   rw [hr] at HG
   unfold getV at HG
   simp only at HG ⊢
   have HW := fun X => valueOf_any 3 (.inr rfl) (bytesOf l) (hln l hr) X
   rw [show (⟨(bytesOf l).toArray⟩ : ByteArray) = bs (bytesOf l) from rfl] at HG
   obtain ⟨q, hq⟩ : ∃ q, q = bs (bytesOf l) := ⟨_, rfl⟩
   obtain ⟨⟨x, f⟩, hx⟩ : ∃ r, r = valR 3 (bytesOf l) := ⟨_, rfl⟩
   rw [← hx] at HW
   rw [← hx]
   simp only [← hq] at HG HW ⊢
   obtain ⟨er, her⟩ : ∃ er : Value, er = errV f := ⟨_, rfl⟩
   simp only [← her] at HW ⊢
   obtain ⟨xc, hxc⟩ : ∃ c, c = vlC x := ⟨_, rfl⟩
   have hx3 : xc.size = 3 := by rw [hxc]; rfl
   have hx1 : xc.all (·.oneCell') = true := by rw [hxc]; exact vlC_one _
   simp only [← hxc] at HW ⊢
   clear hr HT hX h hln hq hx her hxc
   rw [hV] at cp
   go_enter Tryz.func61, Tryz.ntmps61
   go_wp2_with fail
   rw [← hV]
   refine HG.mono ?_
   rintro e X ⟨rfl, hX⟩
   have hXh := (hX.block _ hVl).trans hVh
   have hXl := Nat.lt_of_lt_of_le hVl hX.size
   have HB := hide (below_next hVb hX)
   clear hV HG hX cp
   go_wp2_with fail
   refine (HW X).mono ?_
   rintro e Y ⟨rfl, hY⟩
   have hYh := (hY.block _ hXl).trans hXh
   have HC := hide (below_next HB.out hY)
   clear HW hY
   go_wp2_with (refine wpList_store_row rfl 66 _ _ rfl W.heap.size xc rfl rfl 66 _ hYh (by rw [hx3]; exact size_vl) (by rw [hx3]; rfl) hx1 ?_)
   exact bodyPost_ret (v := .tuple #[.agg xc, er]) (results_vl rfl _ _ W.heap.size xc _ hx3 rfl rfl (setRow_heap _ _ _ _ _ _ hYh)) rfl ⟨rfl, below_setRow HC.out (Nat.le_refl _) _⟩
theorem textP_code (p : Nat → Option Nat) (a : Nat) : ∀ (f i : Nat) (l : List Nat), (Mm.textP p a f i l).1 = 0 ∨ (Mm.textP p a f i l).1 = 5 ∨ (Mm.textP p a f i l).1 = 6
 | 0, _, _ => .inr (.inr rfl)
 | f + 1, i, l => by
  unfold Mm.textP
  cases hp : p (addrI a i) with
  | none => exact .inr (.inl rfl)
  | some x =>
   by_cases hx : x = 0
   ·
    rw [hx]
    exact .inl rfl
   ·
    simp only [if_neg hx]; exact textP_code p a f (i + 1) (l ++ [x])
theorem followF_V (m : MS) (k a : Nat) (hk : k = 2 ∨ k = 3) : followF m k a = if (followV m k a).2 = 0 then .inl (followV m k a).1 else .inr (errnoN (followV m k a).2) := by
 unfold followF followV
 rcases hk with rfl | rfl
 ·
  rw [if_pos rfl, if_pos rfl]
  have hc := textP_code (peek m) a 41 0 []
  obtain ⟨⟨f, l⟩, hr⟩ : ∃ r, r = Mm.textP (peek m) a 41 0 [] := ⟨_, rfl⟩
  rw [← hr] at hc ⊢
  simp only at hc ⊢
  rcases hc with rfl | rfl | rfl <;> rfl
 ·
  simp only [if_neg (show ¬ (3 : Nat) = 2 by decide)]
  cases hg : getR m a 16 with
  | none => rfl
  | some l =>
   unfold valR valOf
   simp only [↓reduceIte]
   rw [show (⟨(bytesOf l).toArray⟩ : ByteArray) = bs (bytesOf l) from rfl]
   cases hr : readR (bs (bytesOf l)) with
   | none => rfl
   | some x => rfl
end Go.Proofs.YtklibmijiecbfaaGreat

/- The document's bytes of an address, and how it reads them. -/
namespace Go.Proofs.YtklibmijiecbfaaGreat
open Go.RowKit

theorem info_u8 : ∃ i, Tryz.prog.info? 5 = some i ∧ i.zero = some (.int .u8 0) ∧ i.size = 1 ∧ i.bytes = 1 := by
 have hz : (Tryz.prog.info? 5).map (·.zero) = some (some (.int .u8 0)) := by kernel_rfl
 have hs : (Tryz.prog.info? 5).map (·.size) = some 1 := by kernel_rfl
 have hb : (Tryz.prog.info? 5).map (·.bytes) = some 1 := by kernel_rfl
 cases hq : Tryz.prog.info? 5 with
 | none => rw [hq] at hs; simp at hs
 | some i =>
  rw [hq] at hz hs hb
  simp at hz hs hb
  exact ⟨i, rfl, hz, hs, hb⟩

theorem make16 (w : World) : (Instr.makeSlice 132 (.int .i64 16) (.int .i64 16)).run Tryz.prog w = .ok (.slice (some ⟨w.heap.size, 0, none⟩) 16 16)
  (w.alloc (.cells #[.int .u8 0, .int .u8 0, .int .u8 0, .int .u8 0, .int .u8 0, .int .u8 0, .int .u8 0, .int .u8 0, .int .u8 0, .int .u8 0, .int .u8 0, .int .u8 0, .int .u8 0, .int .u8 0, .int .u8 0, .int .u8 0] 5)) := by
 obtain ⟨i, hi, hz, hs, hb⟩ := info_u8
 have hr := run_make (P := Tryz.prog) w 132 5 i _ Tryz.underlying132 hi hz .i64 .i64 16 16 (by omega) (by omega) (by rw [hb]; omega) (by omega)
 have e : madeCells (Value.int IntKind.u8 0).cells 16 = #[.int .u8 0, .int .u8 0, .int .u8 0, .int .u8 0, .int .u8 0, .int .u8 0, .int .u8 0, .int .u8 0, .int .u8 0, .int .u8 0, .int .u8 0, .int .u8 0, .int .u8 0, .int .u8 0, .int .u8 0, .int .u8 0] := by kernel_rfl
 rw [hs, show Int.toNat 16 * 1 = 16 from rfl, e] at hr
 exact hr

theorem bArr_world5 (w : World) (ip port k m : Nat) (hk : k < 4) : ((w.alloc (.cells (bArr ip port k) 5)).drewN m).setCell ⟨w.heap.size, 4 + k, none⟩ (.int .u8 (ipB ip k : Nat)) = (w.alloc (.cells (bArr ip port (k + 1)) 5)).drewN m := by
 have h : ((w.alloc (.cells (bArr ip port k) 5)).drewN m).heap[w.heap.size]? = some (.cells (bArr ip port k) 5 (0, 0)) := heap_alloc_new w _
 rw [setCell_eq_setRow _ _ (4 + k) _ _ _ _ h, bArr_set ip port k hk]
 exact congrArg (World.drewN · m) (World.setRow_alloc_new w _ _ _)
theorem bytes_conv5 (w : World) (ip : Nat) (hip : ip < 4294967296) (port : Nat) (hp : port ≤ 65535) (m : Nat) :
  (convert 132 9 (.slice (some ⟨w.heap.size, 0, none⟩) 16 16)).run Tryz.prog ((w.alloc (.cells (bArr ip port 4) 5)).drewN m) = .ok (.string ⟨(bytesL ip port).toArray⟩) ((w.alloc (.cells (bArr ip port 4) 5)).drewN m) := by
 refine run_convert_bytes_back (P := Tryz.prog) _ 132 9 5 ⟨w.heap.size, 0, none⟩ 16 (bytesL ip port) Tryz.underlying132 Tryz.underlying5 Tryz.underlying9 fun j hj => ?_
 have h : ((w.alloc (.cells (bArr ip port 4) 5)).drewN m).heap[w.heap.size]? = some (.cells (bArr ip port 4) 5 (0, 0)) := heap_alloc_new w _
 rw [show (⟨w.heap.size, 0, none⟩ : Addr).add j = ⟨w.heap.size, j, none⟩ by simp [Addr.add]; omega, cell_of_row _ _ j _ _ _ h, bytes_cells ip hip port hp]
 simp [hj]

set_option maxRecDepth 10000 in
theorem addrBytes_any (ip : Nat) (hip : ip < 4294967296) (port : Nat) (hp : port ≤ 65535) (w : World) : Calls Tryz.prog 99 #[.int .u32 ip, .int .i64 port] w fun e w' => e = .returned (.string ⟨(bytesL ip port).toArray⟩) ∧ Below w.heap.size w w' := by
 have hmk := make16 w
 go_enter Tryz.func99, Tryz.ntmps99
 go_wp2
 go_loopw [6] (fun i w' => ∃ k m : Nat, k ≤ 4 ∧ i = .int .i64 k ∧ w' = (w.alloc (.cells (bArr ip port k) 5)).drewN m) (fun i _ => 4 - (intOf i).toNat)
 case atStart => exact ⟨0, 0, by omega, rfl, rfl⟩
 case round =>
  obtain ⟨k, m, hk, rfl, rfl⟩ := hrel
  by_cases hlt : k < 4
  ·
   have hg := bArr_get ip port k hlt
   have HQ := hide (show (ip : Int) / 2 ^ (24 - 8 * k) % 256 = ((ipB ip k : Nat) : Int) by unfold ipB; simp)
   go_wp2
   go_round
   case rel => exact ⟨k + 1, m, by omega, by go_num, by rw [HQ.out]; exact bArr_world5 w ip port k m hlt⟩
   case measure => simp [intOf]; omega
  ·
   obtain rfl : k = 4 := by omega
   have hcv := bytes_conv5 w ip hip port hp m
   go_wp2
   go_ret
   exact ⟨rfl, below_drewN' ((Below.refl _ _).alloc (Nat.le_refl _) _) _⟩

def ofV : Option (Nat × Nat) → Value
 | none => .tuple #[.int .u32 0, .int .i64 0, .bool false]
 | some (ip, p) => .tuple #[.int .u32 ip, .int .i64 p, .bool true]

theorem ipR_step2 (s : ByteArray) (k : Nat) (hk : k < 4) : (ipR s k : Int) * 256 % 4294967296 + (byteAt s (4 + k) : Int) = ((ipR s (k + 1) : Nat) : Int) := by
 have h1 := ipR_lt s k
 have h2 := byteAt_lt s (4 + k)
 have h3 : ipR s k < 16777216 := Nat.lt_of_lt_of_le h1 (Nat.pow_le_pow_right (n := 256) (j := 3) (by decide) (by omega))
 show _ = ((ipR s k * 256 + byteAt s (4 + k) : Nat) : Int)
 omega

theorem addrOf_any (s : ByteArray) (w : World) : Calls Tryz.prog 96 #[.string s] w fun e w' => e = .returned (ofV (readR s)) ∧ Below w.heap.size w w' := by
 by_cases hs : s.size = 16
 ·
  have b2 := byteAt_eq s 2 (by omega)
  have b3 := byteAt_eq s 3 (by omega)
  have l2 := byteAt_lt s 2
  have l3 := byteAt_lt s 3
  go_enter Tryz.func96, Tryz.ntmps96
  go_wp2
  go_quiet (fail)
  go_wp2
  go_loopw [7, 6] (fun i x w' => ∃ k m : Nat, k ≤ 4 ∧ i = .int .i64 (4 + (k : Int)) ∧ x = .int .u32 (ipR s k) ∧ w' = w.drewN m) (fun i _ _ => 8 - (intOf i).toNat)
  case atStart => exact ⟨0, nq, by omega, rfl, rfl, rfl⟩
  case round =>
   obtain ⟨k, m, hk, rfl, rfl, rfl⟩ := hrel
   by_cases hlt : k < 4
   ·
    have bk := byteAt_eq s (4 + k) (by omega)
    have lk := byteAt_lt s (4 + k)
    have HQ := hide (ipR_step2 s k hlt)
    have lt4 : (4 : Int) + k < 8 := by omega
    go_wp2
    go_round
    case rel => exact ⟨k + 1, m, by omega, by go_num, by rw [HQ.out], rfl⟩
    case measure => simp [intOf]; omega
   ·
    obtain rfl : k = 4 := by omega
    have hp : byteAt s 2 * 256 + byteAt s 3 ≤ 65535 := by omega
    have hi : ipR s 4 < 4294967296 := ipR_lt s 4
    have HC : ∀ V, Calls Tryz.prog 99 #[.int .u32 (ipR s 4), .int .i64 (256 * (byteAt s 2 : Int) + (byteAt s 3 : Int))] V fun e w' => e = .returned (.string ⟨(bytesL (ipR s 4) (portOf s)).toArray⟩) ∧ Below V.heap.size V w' := fun V => by
     have h := addrBytes_any (ipR s 4) hi (portOf s) hp V
     rw [show ((portOf s : Nat) : Int) = 256 * (byteAt s 2 : Int) + (byteAt s 3 : Int) by unfold portOf; omega] at h
     exact h
    by_cases he : bytesL (ipR s 4) (portOf s) = s.data.toList
    ·
     have HV := hide (show ofV (readR s) = .tuple #[.int .u32 (ipR s 4), .int .i64 (portOf s), .bool true] by unfold readR; rw [if_pos ⟨hs, he⟩]; rfl)
     have HP := hide (show ((portOf s : Nat) : Int) = 256 * (byteAt s 2 : Int) + (byteAt s 3 : Int) by unfold portOf; omega)
     have hc : (bytesL (ipR s 4) (portOf s) == s.toList) = true := by rw [Lib.toList_data, beq_iff_eq]; exact he
     clear he
     go_wp2_with (go_at_call 99; refine (HC _).mono ?_; rintro e W ⟨rfl, hW⟩)
     go_ret3
     exact ⟨by rw [HV.out, HP.out]; rfl, Below.trans (below_drewN' (Below.refl _ _) m) hW⟩
    ·
     have HV := hide (show ofV (readR s) = .tuple #[.int .u32 0, .int .i64 0, .bool false] by unfold readR; rw [if_neg (fun h => he h.2)]; rfl)
     have hc : (bytesL (ipR s 4) (portOf s) == s.toList) = false := by rw [Lib.toList_data, beq_eq_false_iff_ne]; exact he
     clear he
     go_wp2_with (go_at_call 99; refine (HC _).mono ?_; rintro e W ⟨rfl, hW⟩)
     go_ret3
     exact ⟨by rw [HV.out]; rfl, Below.trans (below_drewN' (Below.refl _ _) m) hW⟩
 ·
  have HV := hide (show ofV (readR s) = .tuple #[.int .u32 0, .int .i64 0, .bool false] by unfold readR; rw [if_neg (fun h => hs h.1)]; rfl)
  have hb : ((s.size : Int) != 16) = true := by rw [bne_iff_ne]; omega
  go_enter Tryz.func96, Tryz.ntmps96
  go_wp2
  go_ret3
  exact ⟨by rw [HV.out]; rfl, Below.refl _ _⟩
end Go.Proofs.YtklibmijiecbfaaGreat
