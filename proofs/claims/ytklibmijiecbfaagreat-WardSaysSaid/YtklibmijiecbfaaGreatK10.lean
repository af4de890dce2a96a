/- follow. -/
import Derived.Test.YtklibmijiecbfaaGreatK9
import Derived.Test.YtklibmijiecbfaaGreatK1
import Derived.Test.YtklibmijiecbfaaGreatK6
import Derived.Laws.MakeOwn
import Derived.Test.YtklibmijiecbfaaGreatK5
import Derived.Test.YtklibmijiecbfaaGreatK4
namespace Go.Proofs.YtklibmijiecbfaaGreat
open Go.RowKit Mm

/-- What a pointer leads to: the value, and the error's number. -/
def followV (m : MS) (k a : Nat) : VL × Nat :=
  if k = 2 then (⟨⟨(bytesOf (Mm.textP (peek m) a 41 0 []).2).toArray⟩, 0, 0⟩, (Mm.textP (peek m) a 41 0 []).1)
  else match getR m a 16 with
    | none => (zeroVL, 5)
    | some l => valR 3 (bytesOf l)
set_option maxHeartbeats 1000000 in
theorem follow_any {g gm : Nat} {P : PV} {s : WS} {lv : Value} {W : World} (k a : Nat) (hk : k = 2 ∨ k = 3) (ha : a < 18446744073709551616) (hlt : ∀ x, s.mem.byte x < 256) (h : WX g gm P s lv W) :
    Calls Tryz.prog 61 #[.pointer (some ⟨g, 0, none⟩), .int .i64 k, .int .u64 a] W fun e w' => e = .returned (.tuple #[.agg (vlC (followV s.mem k a).1), errV (followV s.mem k a).2]) ∧ Below W.heap.size W w' := by
  obtain ⟨V, hV, hVh, hVb⟩ : ∃ V, V = W.alloc (.cells #[.string ⟨#[]⟩, .int .u32 0, .int .i64 0] 66) ∧ V.heap[W.heap.size]? = some (.cells #[.string ⟨#[]⟩, .int .u32 0, .int .i64 0] 66 (0, 0)) ∧ Below W.heap.size W V := ⟨_, rfl, heap_alloc_new _ _, box_below _ _⟩
  have hVl := (Array.getElem?_eq_some_iff.1 hVh).1
  have hX := h.on hVb
  have cp := hX.ptr
  have HT := Mm.text_any hX.mem a ha hlt
  have HG := get_any hX.mem a 16 ha (by omega) hlt
  unfold followV
  rcases hk with rfl | rfl
  · rw [if_pos rfl]
    obtain ⟨⟨f, l⟩, hr⟩ : ∃ r, r = Mm.textP (peek s.mem) a 41 0 [] := ⟨_, rfl⟩
    rw [← hr] at HT
    rw [← hr]
    unfold Mm.textV at HT
    simp only at HT ⊢
    obtain ⟨q, hq⟩ : ∃ q : ByteArray, q = ⟨(bytesOf l).toArray⟩ := ⟨_, rfl⟩
    rw [← hq] at HT
    rw [← hq]
    obtain ⟨er, her⟩ : ∃ er : Value, er = errV f := ⟨_, rfl⟩
    rw [show (if f = 0 then Value.nilIface else .iface 82 (.int .i64 f)) = er from her.symm] at HT
    rw [← her]
    clear hq hr HG hX h her
    rw [hV] at cp
    go_enter Tryz.func61, Tryz.ntmps61
    go_wp2_with fail
    rw [← hV]
    refine HT.mono ?_
    rintro e X ⟨rfl, hX⟩
    have hXh := (hX.block _ hVl).trans hVh
    have HB := hide (below_next hVb hX)
    clear hV HT hX cp
    go_wp2_with (refine wpList_store_row rfl 66 _ _ rfl W.heap.size (vlC ⟨q, 0, 0⟩) rfl rfl 66 _ hXh size_vl rfl (vlC_one _) ?_)
    exact bodyPost_ret (v := .tuple #[.agg (vlC ⟨q, 0, 0⟩), er]) (results_vl rfl _ _ W.heap.size (vlC ⟨q, 0, 0⟩) _ rfl rfl rfl (setRow_heap _ _ _ _ _ _ hXh)) rfl ⟨rfl, below_setRow HB.out (Nat.le_refl _) _⟩
  · rw [if_neg (by omega)]
    have hln : ∀ l, getR s.mem a 16 = some l → (bytesOf l).length ≤ 9000 := by
      intro l hl
      have := getR_len hl
      unfold bytesOf
      rw [List.length_map]
      omega
    cases hr : getR s.mem a 16 with
    | none =>
      rw [hr] at HG
      unfold getV at HG
      simp only at HG ⊢
      clear hr HT hX h hln
      rw [hV] at cp
      go_enter Tryz.func61, Tryz.ntmps61
      go_wp2_with fail
      rw [← hV]
      refine HG.mono ?_
      rintro e X ⟨rfl, hX⟩
      have hXh := (hX.block _ hVl).trans hVh
      have HB := hide (below_next hVb hX)
      clear hV HG hX cp
      go_wp2_with (refine wpList_store_row rfl 66 _ _ rfl W.heap.size (vlC zeroVL) rfl rfl 66 _ hXh size_vl rfl (vlC_one _) ?_)
      exact bodyPost_ret (v := .tuple #[.agg (vlC zeroVL), .iface 82 (.int .i64 5)]) (results_vl rfl _ _ W.heap.size (vlC zeroVL) _ rfl rfl rfl (setRow_heap _ _ _ _ _ _ hXh)) rfl ⟨rfl, below_setRow HB.out (Nat.le_refl _) _⟩
    | some l =>
      rw [hr] at HG
      unfold getV at HG
      simp only at HG ⊢
      have HW := fun X => valueOf_any 3 (.inr rfl) (bytesOf l) (hln l hr) X
      rw [show (⟨(bytesOf l).toArray⟩ : ByteArray) = bs (bytesOf l) from rfl] at HG
      obtain ⟨q, hq⟩ : ∃ q, q = bs (bytesOf l) := ⟨_, rfl⟩
      obtain ⟨⟨x, f⟩, hx⟩ : ∃ r, r = valR 3 (bytesOf l) := ⟨_, rfl⟩
      rw [← hx] at HW
      rw [← hx]
      simp only [← hq] at HG HW ⊢
      obtain ⟨er, her⟩ : ∃ er : Value, er = errV f := ⟨_, rfl⟩
      simp only [← her] at HW ⊢
      obtain ⟨xc, hxc⟩ : ∃ c, c = vlC x := ⟨_, rfl⟩
      have hx3 : xc.size = 3 := by rw [hxc]; rfl
      have hx1 : xc.all (·.oneCell') = true := by rw [hxc]; exact vlC_one _
      simp only [← hxc] at HW ⊢
      clear hr HT hX h hln hq hx her hxc
      rw [hV] at cp
      go_enter Tryz.func61, Tryz.ntmps61
      go_wp2_with fail
      rw [← hV]
      refine HG.mono ?_
      rintro e X ⟨rfl, hX⟩
      have hXh := (hX.block _ hVl).trans hVh
      have hXl := Nat.lt_of_lt_of_le hVl hX.size
      have HB := hide (below_next hVb hX)
      clear hV HG hX cp
      go_wp2_with fail
      refine (HW X).mono ?_
      rintro e Y ⟨rfl, hY⟩
      have hYh := (hY.block _ hXl).trans hXh
      have HC := hide (below_next HB.out hY)
      clear HW hY
      go_wp2_with (refine wpList_store_row rfl 66 _ _ rfl W.heap.size xc rfl rfl 66 _ hYh (by rw [hx3]; exact size_vl) (by rw [hx3]; rfl) hx1 ?_)
      exact bodyPost_ret (v := .tuple #[.agg xc, er]) (results_vl rfl _ _ W.heap.size xc _ hx3 rfl rfl (setRow_heap _ _ _ _ _ _ hYh)) rfl ⟨rfl, below_setRow HC.out (Nat.le_refl _) _⟩
theorem textP_code (p : Nat → Option Nat) (a : Nat) : ∀ (f i : Nat) (l : List Nat), (Mm.textP p a f i l).1 = 0 ∨ (Mm.textP p a f i l).1 = 5 ∨ (Mm.textP p a f i l).1 = 6
  | 0, _, _ => .inr (.inr rfl)
  | f + 1, i, l => by
    unfold Mm.textP
    cases hp : p (addrI a i) with
    | none => exact .inr (.inl rfl)
    | some x =>
      by_cases hx : x = 0
      · rw [hx]
        exact .inl rfl
      · simp only [if_neg hx]; exact textP_code p a f (i + 1) (l ++ [x])
/-- The two ways to say what a pointer leads to are one. -/
theorem followF_V (m : MS) (k a : Nat) (hk : k = 2 ∨ k = 3) : followF m k a = if (followV m k a).2 = 0 then .inl (followV m k a).1 else .inr (errnoN (followV m k a).2) := by
  unfold followF followV
  rcases hk with rfl | rfl
  · rw [if_pos rfl, if_pos rfl]
    have hc := textP_code (peek m) a 41 0 []
    obtain ⟨⟨f, l⟩, hr⟩ : ∃ r, r = Mm.textP (peek m) a 41 0 [] := ⟨_, rfl⟩
    rw [← hr] at hc ⊢
    simp only at hc ⊢
    rcases hc with rfl | rfl | rfl <;> rfl
  · simp only [if_neg (show ¬ (3 : Nat) = 2 by decide)]
    cases hg : getR m a 16 with
    | none => rfl
    | some l =>
      unfold valR valOf
      simp only [↓reduceIte]
      rw [show (⟨(bytesOf l).toArray⟩ : ByteArray) = bs (bytesOf l) from rfl]
      cases hr : readR (bs (bytesOf l)) with
      | none => rfl
      | some x => rfl
end Go.Proofs.YtklibmijiecbfaaGreat

/- The document's bytes of an address, and how it reads them. -/
namespace Go.Proofs.YtklibmijiecbfaaGreat
open Go.RowKit

theorem info_u8 : ∃ i, Tryz.prog.info? 5 = some i ∧ i.zero = some (.int .u8 0) ∧ i.size = 1 ∧ i.bytes = 1 := by
  have hz : (Tryz.prog.info? 5).map (·.zero) = some (some (.int .u8 0)) := by kernel_rfl
  have hs : (Tryz.prog.info? 5).map (·.size) = some 1 := by kernel_rfl
  have hb : (Tryz.prog.info? 5).map (·.bytes) = some 1 := by kernel_rfl
  cases hq : Tryz.prog.info? 5 with
  | none => rw [hq] at hs; simp at hs
  | some i =>
    rw [hq] at hz hs hb
    simp at hz hs hb
    exact ⟨i, rfl, hz, hs, hb⟩

/-- 'make([]byte, 16)'. -/
theorem make16 (w : World) : (Instr.makeSlice 132 (.int .i64 16) (.int .i64 16)).run Tryz.prog w = .ok (.slice (some ⟨w.heap.size, 0, none⟩) 16 16)
    (w.alloc (.cells #[.int .u8 0, .int .u8 0, .int .u8 0, .int .u8 0, .int .u8 0, .int .u8 0, .int .u8 0, .int .u8 0, .int .u8 0, .int .u8 0, .int .u8 0, .int .u8 0, .int .u8 0, .int .u8 0, .int .u8 0, .int .u8 0] 5)) := by
  obtain ⟨i, hi, hz, hs, hb⟩ := info_u8
  have hr := run_make (P := Tryz.prog) w 132 5 i _ Tryz.underlying132 hi hz .i64 .i64 16 16 (by omega) (by omega) (by rw [hb]; omega) (by omega)
  have e : madeCells (Value.int IntKind.u8 0).cells 16 = #[.int .u8 0, .int .u8 0, .int .u8 0, .int .u8 0, .int .u8 0, .int .u8 0, .int .u8 0, .int .u8 0, .int .u8 0, .int .u8 0, .int .u8 0, .int .u8 0, .int .u8 0, .int .u8 0, .int .u8 0, .int .u8 0] := by kernel_rfl
  rw [hs, show Int.toNat 16 * 1 = 16 from rfl, e] at hr
  exact hr

theorem bArr_world5 (w : World) (ip port k m : Nat) (hk : k < 4) : ((w.alloc (.cells (bArr ip port k) 5)).drewN m).setCell ⟨w.heap.size, 4 + k, none⟩ (.int .u8 (ipB ip k : Nat)) = (w.alloc (.cells (bArr ip port (k + 1)) 5)).drewN m := by
  have h : ((w.alloc (.cells (bArr ip port k) 5)).drewN m).heap[w.heap.size]? = some (.cells (bArr ip port k) 5 (0, 0)) := heap_alloc_new w _
  rw [setCell_eq_setRow _ _ (4 + k) _ _ _ _ h, bArr_set ip port k hk]
  exact congrArg (World.drewN · m) (World.setRow_alloc_new w _ _ _)
theorem bytes_conv5 (w : World) (ip : Nat) (hip : ip < 4294967296) (port : Nat) (hp : port ≤ 65535) (m : Nat) :
    (convert 132 9 (.slice (some ⟨w.heap.size, 0, none⟩) 16 16)).run Tryz.prog ((w.alloc (.cells (bArr ip port 4) 5)).drewN m) = .ok (.string ⟨(bytesL ip port).toArray⟩) ((w.alloc (.cells (bArr ip port 4) 5)).drewN m) := by
  refine run_convert_bytes_back (P := Tryz.prog) _ 132 9 5 ⟨w.heap.size, 0, none⟩ 16 (bytesL ip port) Tryz.underlying132 Tryz.underlying5 Tryz.underlying9 fun j hj => ?_
  have h : ((w.alloc (.cells (bArr ip port 4) 5)).drewN m).heap[w.heap.size]? = some (.cells (bArr ip port 4) 5 (0, 0)) := heap_alloc_new w _
  rw [show (⟨w.heap.size, 0, none⟩ : Addr).add j = ⟨w.heap.size, j, none⟩ by simp [Addr.add]; omega, cell_of_row _ _ j _ _ _ h, bytes_cells ip hip port hp]
  simp [hj]

set_option maxRecDepth 10000 in
theorem addrBytes_any (ip : Nat) (hip : ip < 4294967296) (port : Nat) (hp : port ≤ 65535) (w : World) : Calls Tryz.prog 99 #[.int .u32 ip, .int .i64 port] w fun e w' => e = .returned (.string ⟨(bytesL ip port).toArray⟩) ∧ Below w.heap.size w w' := by
  have hmk := make16 w
  go_enter Tryz.func99, Tryz.ntmps99
  go_wp2
  go_loopw [6] (fun i w' => ∃ k m : Nat, k ≤ 4 ∧ i = .int .i64 k ∧ w' = (w.alloc (.cells (bArr ip port k) 5)).drewN m) (fun i _ => 4 - (intOf i).toNat)
  case atStart => exact ⟨0, 0, by omega, rfl, rfl⟩
  case round =>
    obtain ⟨k, m, hk, rfl, rfl⟩ := hrel
    by_cases hlt : k < 4
    · have hg := bArr_get ip port k hlt
      have HQ := hide (show (ip : Int) / 2 ^ (24 - 8 * k) % 256 = ((ipB ip k : Nat) : Int) by unfold ipB; simp)
      go_wp2
      go_round
      case rel => exact ⟨k + 1, m, by omega, by go_num, by rw [HQ.out]; exact bArr_world5 w ip port k m hlt⟩
      case measure => simp [intOf]; omega
    · obtain rfl : k = 4 := by omega
      have hcv := bytes_conv5 w ip hip port hp m
      go_wp2
      go_ret
      exact ⟨rfl, below_drewN' ((Below.refl _ _).alloc (Nat.le_refl _) _) _⟩

/-- What AddrOf hands back. -/
def ofV : Option (Nat × Nat) → Value
  | none => .tuple #[.int .u32 0, .int .i64 0, .bool false]
  | some (ip, p) => .tuple #[.int .u32 ip, .int .i64 p, .bool true]

theorem ipR_step2 (s : ByteArray) (k : Nat) (hk : k < 4) : (ipR s k : Int) * 256 % 4294967296 + (byteAt s (4 + k) : Int) = ((ipR s (k + 1) : Nat) : Int) := by
  have h1 := ipR_lt s k
  have h2 := byteAt_lt s (4 + k)
  have h3 : ipR s k < 16777216 := Nat.lt_of_lt_of_le h1 (Nat.pow_le_pow_right (n := 256) (j := 3) (by decide) (by omega))
  show _ = ((ipR s k * 256 + byteAt s (4 + k) : Nat) : Int)
  omega

theorem addrOf_any (s : ByteArray) (w : World) : Calls Tryz.prog 96 #[.string s] w fun e w' => e = .returned (ofV (readR s)) ∧ Below w.heap.size w w' := by
  by_cases hs : s.size = 16
  · have b2 := byteAt_eq s 2 (by omega)
    have b3 := byteAt_eq s 3 (by omega)
    have l2 := byteAt_lt s 2
    have l3 := byteAt_lt s 3
    go_enter Tryz.func96, Tryz.ntmps96
    go_wp2
    go_quiet (fail)
    go_wp2
    go_loopw [7, 6] (fun i x w' => ∃ k m : Nat, k ≤ 4 ∧ i = .int .i64 (4 + (k : Int)) ∧ x = .int .u32 (ipR s k) ∧ w' = w.drewN m) (fun i _ _ => 8 - (intOf i).toNat)
    case atStart => exact ⟨0, nq, by omega, rfl, rfl, rfl⟩
    case round =>
      obtain ⟨k, m, hk, rfl, rfl, rfl⟩ := hrel
      by_cases hlt : k < 4
      · have bk := byteAt_eq s (4 + k) (by omega)
        have lk := byteAt_lt s (4 + k)
        have HQ := hide (ipR_step2 s k hlt)
        have lt4 : (4 : Int) + k < 8 := by omega
        go_wp2
        go_round
        case rel => exact ⟨k + 1, m, by omega, by go_num, by rw [HQ.out], rfl⟩
        case measure => simp [intOf]; omega
      · obtain rfl : k = 4 := by omega
        have hp : byteAt s 2 * 256 + byteAt s 3 ≤ 65535 := by omega
        have hi : ipR s 4 < 4294967296 := ipR_lt s 4
        have HC : ∀ V, Calls Tryz.prog 99 #[.int .u32 (ipR s 4), .int .i64 (256 * (byteAt s 2 : Int) + (byteAt s 3 : Int))] V fun e w' => e = .returned (.string ⟨(bytesL (ipR s 4) (portOf s)).toArray⟩) ∧ Below V.heap.size V w' := fun V => by
          have h := addrBytes_any (ipR s 4) hi (portOf s) hp V
          rw [show ((portOf s : Nat) : Int) = 256 * (byteAt s 2 : Int) + (byteAt s 3 : Int) by unfold portOf; omega] at h
          exact h
        by_cases he : bytesL (ipR s 4) (portOf s) = s.data.toList
        · have HV := hide (show ofV (readR s) = .tuple #[.int .u32 (ipR s 4), .int .i64 (portOf s), .bool true] by unfold readR; rw [if_pos ⟨hs, he⟩]; rfl)
          have HP := hide (show ((portOf s : Nat) : Int) = 256 * (byteAt s 2 : Int) + (byteAt s 3 : Int) by unfold portOf; omega)
          have hc : (bytesL (ipR s 4) (portOf s) == s.toList) = true := by rw [Lib.toList_data, beq_iff_eq]; exact he
          clear he
          go_wp2_with (go_at_call 99; refine (HC _).mono ?_; rintro e W ⟨rfl, hW⟩)
          go_ret3
          exact ⟨by rw [HV.out, HP.out]; rfl, Below.trans (below_drewN' (Below.refl _ _) m) hW⟩
        · have HV := hide (show ofV (readR s) = .tuple #[.int .u32 0, .int .i64 0, .bool false] by unfold readR; rw [if_neg (fun h => he h.2)]; rfl)
          have hc : (bytesL (ipR s 4) (portOf s) == s.toList) = false := by rw [Lib.toList_data, beq_eq_false_iff_ne]; exact he
          clear he
          go_wp2_with (go_at_call 99; refine (HC _).mono ?_; rintro e W ⟨rfl, hW⟩)
          go_ret3
          exact ⟨by rw [HV.out]; rfl, Below.trans (below_drewN' (Below.refl _ _) m) hW⟩
  · have HV := hide (show ofV (readR s) = .tuple #[.int .u32 0, .int .i64 0, .bool false] by unfold readR; rw [if_neg (fun h => hs h.1)]; rfl)
    have hb : ((s.size : Int) != 16) = true := by rw [bne_iff_ne]; omega
    go_enter Tryz.func96, Tryz.ntmps96
    go_wp2
    go_ret3
    exact ⟨by rw [HV.out]; rfl, Below.refl _ _⟩
end Go.Proofs.YtklibmijiecbfaaGreat

/- The document's Leads. -/
namespace Go.Proofs.YtklibmijiecbfaaGreat
open Go.RowKit Mm

/-- The pointers from one argument on. -/
def remL (nr i : Nat) : List Nat := (List.range 4).filter fun j => decide (i ≤ j) && decide (2 ≤ kindAt nr j)
theorem remL_hit {nr j : Nat} (hj : j < 4) (hk : 2 ≤ kindAt nr j) : remL nr j = j :: remL nr (j + 1) := by
  have r4 : List.range 4 = [0, 1, 2, 3] := rfl
  rcases show j = 0 ∨ j = 1 ∨ j = 2 ∨ j = 3 by omega with rfl | rfl | rfl | rfl <;> simp [remL, r4, List.filter, hk]
theorem remL_miss {nr j : Nat} (hj : j < 4) (hk : ¬ 2 ≤ kindAt nr j) : remL nr j = remL nr (j + 1) := by
  have r4 : List.range 4 = [0, 1, 2, 3] := rfl
  rcases show j = 0 ∨ j = 1 ∨ j = 2 ∨ j = 3 by omega with rfl | rfl | rfl | rfl <;> simp [remL, r4, List.filter, hk]
theorem remL_end (nr : Nat) : remL nr 4 = [] := rfl
theorem remL_zero {nr : Nat} (h : nr ≤ 8) : remL nr 0 = ptsOf nr := by
  unfold remL ptsOf
  rw [if_pos h]
  simp
/-- What a call's pointers lead to. -/
def leadsL (m : MS) (nr : Nat) (now : Nat → Nat) : List Nat → (Nat → VL) → VS × Nat
  | [], v => (vsOf v, 0)
  | i :: r, v => match followF m (kindAt nr i) (now i) with
    | .inl x => leadsL m nr now r (updF v i x)
    | .inr e => (zeroVS, e)
def follow3 : Option (List Nat) → VL ⊕ Nat
  | none => .inr 14
  | some l => match readR ⟨(bytesOf l).toArray⟩ with
    | some x => .inl ⟨ByteArray.empty, x.1, x.2⟩
    | none => .inr 22
theorem followF_3 {m : MS} {k a : Nat} (hk : k ≠ 2) : followF m k a = follow3 (getR m a 16) := by
  unfold followF follow3
  rw [if_neg hk]
  cases getR m a 16 with
  | none => rfl
  | some l =>
    simp only
    cases readR ⟨(bytesOf l).toArray⟩ <;> rfl
theorem size_vals : (Tryz.prog.info? 68).map (·.size) = some 12 := by kernel_rfl
theorem vsC_one (v : VS) : (vsC v).all (·.oneCell') = true := by simp [vsC, Value.oneCell']
theorem results_vals {fn : Func} {p u : Tmp} (h : fn.results = #[.cell p 68, .tmp u]) (tmps : Array Value) (w : World) (g : Nat) (cs : Array Value) (v : Value) (hs : cs.size = 12)
    (hp : tmps.getD p undef = .pointer (some ⟨g, 0, none⟩)) (hv : tmps.getD u undef = v) (hg : w.heap[g]? = some (.cells cs 68 (0, 0))) :
    (results fn tmps).run Tryz.prog w = .ok (.tuple #[.agg cs, v]) w := by
  rw [results_cell_tmp h, hp, hv]
  have hl := run_loadVar_row (P := Tryz.prog) w g 68 68 cs (0, 0) _ hg Tryz.underlying68 rfl (by rw [hs]; exact size_vals)
  simp [asAddr, hl]
/-- In the midst of Leads: the call's box, the result's, the values'. -/
structure LX (W : World) (k : KL) (c : Array Value) (X : World) : Prop where
  below : Below W.heap.size W X
  call : X.heap[W.heap.size]? = some (.cells (klC k) 52 (0, 0))
  res : X.heap[W.heap.size + 1]? = some (.cells (vsC zeroVS) 68 (0, 0))
  val : X.heap[W.heap.size + 2]? = some (.cells c 68 (0, 0))
theorem LX.on {W : World} {k : KL} {c : Array Value} {X Y : World} (h : LX W k c X) (hb : Below X.heap.size X Y) : LX W k c Y :=
  ⟨below_next h.below hb, (hb.block _ (Array.getElem?_eq_some_iff.1 h.call).1).trans h.call, (hb.block _ (Array.getElem?_eq_some_iff.1 h.res).1).trans h.res, (hb.block _ (Array.getElem?_eq_some_iff.1 h.val).1).trans h.val⟩
theorem LX.start (W : World) (k : KL) : LX W k (vsC (vsOf fun _ => zeroVL)) (((W.alloc (.cells (klC k) 52)).alloc (.cells (vsC zeroVS) 68)).alloc (.cells (vsC zeroVS) 68)) := by
  have b1 := box_below W (.cells (klC k) 52)
  have b2 := box_below (W.alloc (.cells (klC k) 52)) (.cells (vsC zeroVS) 68)
  have b3 := box_below ((W.alloc (.cells (klC k) 52)).alloc (.cells (vsC zeroVS) 68)) (.cells (vsC zeroVS) 68)
  have s1 : (W.alloc (.cells (klC k) 52)).heap.size = W.heap.size + 1 := World.size_alloc _ _
  have s2 : ((W.alloc (.cells (klC k) 52)).alloc (.cells (vsC zeroVS) 68)).heap.size = W.heap.size + 2 := by rw [World.size_alloc, s1]
  refine ⟨below_next (below_next b1 b2) b3, ?_, ?_, ?_⟩
  · rw [b3.block _ (by omega), b2.block _ (by omega)]
    exact heap_alloc_new W _
  · rw [b3.block _ (by omega), ← s1]
    exact heap_alloc_new _ _
  · rw [← s2]
    exact heap_alloc_new _ _
theorem LX.set {W : World} {k : KL} {c : Array Value} {X : World} (h : LX W k c X) (j : Nat) (v : Value) : LX W k (c.setIfInBounds j v) (X.setCell ⟨W.heap.size + 2, j, none⟩ v) := by
  rw [setCell_eq_setRow _ _ _ _ _ _ _ h.val]
  exact ⟨below_setRow h.below (by omega) _, (row_heap X _ _ _ (by omega)).trans h.call, (row_heap X _ _ _ (by omega)).trans h.res, setRow_heap _ _ _ _ _ _ h.val⟩
theorem vsC_path (v : Nat → VL) (i : Nat) (hi : i < 4) (s : ByteArray) : (vsC (vsOf v)).setIfInBounds (i * 3) (.string s) = vsC (vsOf (updF v i ⟨s, (v i).ip, (v i).port⟩)) := by
  rcases show i = 0 ∨ i = 1 ∨ i = 2 ∨ i = 3 by omega with rfl | rfl | rfl | rfl <;> rfl
theorem vsC_ip (v : Nat → VL) (i : Nat) (hi : i < 4) (x : Nat) : (vsC (vsOf v)).setIfInBounds (i * 3 + 1) (.int .u32 x) = vsC (vsOf (updF v i ⟨(v i).path, x, (v i).port⟩)) := by
  rcases show i = 0 ∨ i = 1 ∨ i = 2 ∨ i = 3 by omega with rfl | rfl | rfl | rfl <;> rfl
theorem vsC_port (v : Nat → VL) (i : Nat) (hi : i < 4) (x : Int) : (vsC (vsOf v)).setIfInBounds (i * 3 + 2) (.int .i64 x) = vsC (vsOf (updF v i ⟨(v i).path, (v i).ip, x⟩)) := by
  rcases show i = 0 ∨ i = 1 ∨ i = 2 ∨ i = 3 by omega with rfl | rfl | rfl | rfl <;> rfl
theorem lvs_at (v : Nat → VL) (i : Nat) (hi : i < 4) : (vsC (vsOf v))[i * 3]? = some (.string (v i).path) ∧ (vsC (vsOf v))[i * 3 + 1]? = some (.int .u32 (v i).ip) ∧ (vsC (vsOf v))[i * 3 + 2]? = some (.int .i64 (v i).port) := by
  rcases show i = 0 ∨ i = 1 ∨ i = 2 ∨ i = 3 by omega with rfl | rfl | rfl | rfl <;> exact ⟨rfl, rfl, rfl⟩
theorem klC_reg (k : KL) (i : Nat) (hi : i < 4) : (klC k)[2 + i]? = some (.int .u64 (regN k i)) := by
  rcases show i = 0 ∨ i = 1 ∨ i = 2 ∨ i = 3 by omega with rfl | rfl | rfl | rfl <;> rfl
theorem lreg_lt {k : KL} (hk : KlOk k) (i : Nat) (hi : i < 4) : regN k i < 18446744073709551616 := by
  obtain ⟨_, _, h2, h3, h4, h5⟩ := hk
  rcases show i = 0 ∨ i = 1 ∨ i = 2 ∨ i = 3 by omega with rfl | rfl | rfl | rfl
  · exact h2
  · exact h3
  · exact h4
  · exact h5
set_option maxHeartbeats 8000000 in
set_option maxRecDepth 20000 in
theorem dleads_any {L : Vr.LY} {m : MS} {W : World} (h : Vr.IsD L m W) (k : KL) (hk : KlOk k) (h8 : k.nr ≤ 8) :
    Calls Tryz.prog 101 #[.pointer (some ⟨L.g, L.o, none⟩), klV k] W fun e w' => e = .returned (.tuple #[vsV (leadsL m k.nr (regN k) (ptsOf k.nr) fun _ => zeroVL).1, .int .i64 ((leadsL m k.nr (regN k) (ptsOf k.nr) fun _ => zeroVL).2 : Nat)]) ∧ Below W.heap.size W w' := by
  obtain ⟨R, hR⟩ : ∃ R, R = leadsL m k.nr (regN k) (ptsOf k.nr) fun _ => zeroVL := ⟨_, rfl⟩
  obtain ⟨kc, hkc⟩ : ∃ c, c = klC k := ⟨_, rfl⟩
  obtain ⟨X0, hX0⟩ : ∃ X, X = ((W.alloc (.cells kc 52)).alloc (.cells #[.string ⟨#[]⟩, .int .u32 0, .int .i64 0, .string ⟨#[]⟩, .int .u32 0, .int .i64 0, .string ⟨#[]⟩, .int .u32 0, .int .i64 0, .string ⟨#[]⟩, .int .u32 0, .int .i64 0] 68)).alloc (.cells #[.string ⟨#[]⟩, .int .u32 0, .int .i64 0, .string ⟨#[]⟩, .int .u32 0, .int .i64 0, .string ⟨#[]⟩, .int .u32 0, .int .i64 0, .string ⟨#[]⟩, .int .u32 0, .int .i64 0] 68) := ⟨_, rfl⟩
  have HSt := hide (show LX W k (vsC (vsOf fun _ => zeroVL)) X0 by rw [hX0, hkc]; exact LX.start W k)
  have HR0 := hide (show leadsL m k.nr (regN k) (remL k.nr 0) (fun _ => zeroVL) = R by rw [remL_zero h8, hR])
  rw [← hR]
  obtain ⟨nr, hnr⟩ : ∃ n, n = k.nr := ⟨_, rfl⟩
  have HNR := hide hnr
  rw [← hnr] at HR0 h8
  have HM := hide h
  have HKO := hide hk
  have n1 : (nr : Int) < 100 := by omega
  have n2 : ¬ (100 : Int) < nr := by omega
  have n3 : IntKind.wrap .i64 (nr : Int) = nr := by rw [IntKind.wrap_i64] <;> omega
  have n4 : min (nr : Int) 100 = nr := by omega
  have HK := fun j hj w => dkind_any nr j (by omega) hj w
  unfold klV
  rw [← hkc]
  have HX0 := hide hX0
  obtain ⟨g, hg⟩ : ∃ g, g = L.g := ⟨_, rfl⟩
  obtain ⟨o, ho⟩ : ∃ o, o = L.o := ⟨_, rfl⟩
  have HGO := hide (And.intro hg ho)
  rw [← hg, ← ho]
  clear hR h hk hnr hX0 hkc hg ho
  go_enter Tryz.func101, Tryz.ntmps101
  go_wp2_with fail
  rw [← HX0.out]
  clear HX0
  obtain ⟨r, hr⟩ : ∃ r, r = W.heap.size := ⟨_, rfl⟩
  rw [← hr]
  have HRR := hide hr
  clear hr
  go_loopw [7] (fun I w' => ∃ (i : Nat) (v : Nat → VL), i ≤ 4 ∧ I = .int .i64 i ∧ Hid (LX W k (vsC (vsOf v)) w') ∧ Hid (leadsL m nr (regN k) (remL nr i) v = R ∧ ∀ j, i ≤ j → v j = zeroVL)) (fun I _ => 4 - (intOf I).toNat)
  case atStart => exact ⟨0, _, by omega, rfl, HSt, hide ⟨HR0.out, fun _ _ => rfl⟩⟩
  case round =>
    obtain ⟨i, v, hi, rfl, HC, HG⟩ := hrel
    clear HSt HR0
    have c1 : wr.cell? ⟨r, 1, none⟩ = some (.int .u32 (nr : Nat)) := by rw [HRR.out, cell_of_row _ _ 1 _ _ _ HC.out.call, HNR.out]; rfl
    by_cases hlt : i < 4
    · have hl : (i : Int) < 4 := by omega
      have k1 : (0 : Int) ≤ i := by omega
      have HKJ := fun w => HK i hlt w
      obtain ⟨kd, hkd⟩ : ∃ k, k = kindAt nr i := ⟨_, rfl⟩
      simp only [← hkd] at HKJ
      have hk3 : kd ≤ 3 := by rw [hkd]; exact kind_le _ _
      obtain ⟨ax, hax⟩ : ∃ a, a = regN k i := ⟨_, rfl⟩
      have hax64 : ax < 18446744073709551616 := by rw [hax]; exact lreg_lt HKO.out i hlt
      have c2 : wr.cell? ⟨r, 2 + i, none⟩ = some (.int .u64 (ax : Nat)) := by rw [HRR.out, cell_of_row _ _ (2 + i) _ _ _ HC.out.call, hax]; exact klC_reg _ _ hlt
      by_cases hk2 : 2 ≤ kd
      · have hhit := remL_hit hlt (by rw [← hkd]; exact hk2)
        have HIT := hide (show leadsL m nr (regN k) (remL nr i) v = match followF m kd ax with | .inl x => leadsL m nr (regN k) (remL nr (i + 1)) (updF v i x) | .inr e => (zeroVS, e) by rw [hhit, hkd, hax]; rfl)
        have hzv := HG.out.2 i (Nat.le_refl _)
        have hle := HC.out
        rcases show kd = 2 ∨ kd = 3 by omega with hk2' | hk3'
        · as_aux_lemma =>
          have b2 : ((kd : Int) == 2) = true := by simpa using (show (kd : Int) = 2 by omega)
          have HTX : Hid (Calls Tryz.prog 119 #[.pointer (some ⟨g, o, none⟩), .int .u64 ax] wr fun e w' => e = .returned (rtextV (Mm.textP (peek m) ax 41 0 [])) ∧ Below wr.heap.size wr w') := hide (by rw [HGO.out.1, HGO.out.2]; exact Vr.dtext_any (HM.out.on HC.out.below) ax hax64)
          obtain ⟨⟨f, l⟩, hr⟩ : ∃ r, r = Mm.textP (peek m) ax 41 0 [] := ⟨_, rfl⟩
          have hcode := textP_code (peek m) ax 41 0 []
          rw [← hr] at HTX hcode
          obtain ⟨q, hq⟩ : ∃ q : ByteArray, q = ⟨(bytesOf l).toArray⟩ := ⟨_, rfl⟩
          have HFO := hide (show followF m kd ax = if f = 0 then .inl ⟨q, 0, 0⟩ else .inr (if f = 5 then 14 else 36) by
            unfold followF
            rw [if_pos hk2', ← hr, hq]
            rcases hcode with h0 | h0 | h0 <;> (have h0' : f = _ := h0; subst h0'; rfl))
          unfold rtextV at HTX
          simp only at HTX hcode
          rw [← hq] at HTX
          clear hr hq hkd hax hk2 hk2' hk3 hhit
          go_wp2_with (first | (go_at_call 44; refine (HKJ _).mono ?_; rintro e w' ⟨rfl, hw⟩; rw [hw]; clear hw w'))
          refine HTX.out.mono ?_
          rintro e X ⟨rfl, hX⟩
          have hC2 := HC.out.on hX
          have s0 : X.cell? ⟨r + 2, i * 3, none⟩ = some (.string (v i).path) := by rw [HRR.out, cell_of_row _ _ _ _ _ _ hC2.val]; exact (lvs_at v i hlt).1
          have f0 : X.frozen? ⟨r + 2, i * 3, none⟩ = false := by rw [HRR.out]; exact frozen_of_row _ _ _ _ _ hC2.val
          have HD : Hid (LX W k (vsC (vsOf (updF v i ⟨q, 0, 0⟩))) (X.setCell ⟨r + 2, i * 3, none⟩ (.string q))) := hide (by
            have := hC2.set (i * 3) (.string q)
            rw [vsC_path v i hlt, hzv, ← HRR.out] at this
            exact this)
          clear hC2 hX HTX HC hzv hle
          rcases hcode with rfl | rfl | rfl
          · rw [if_pos rfl] at HFO
            have HV := hide (show leadsL m nr (regN k) (remL nr (i + 1)) (updF v i ⟨q, 0, 0⟩) = R ∧ ∀ j, i + 1 ≤ j → updF v i ⟨q, 0, 0⟩ j = zeroVL from ⟨by rw [← HG.out.1, HIT.out, HFO.out], fun j hj => by rw [updF_other _ _ (by omega)]; exact HG.out.2 j (by omega)⟩)
            go_wp2
            go_round
            case rel => exact ⟨i + 1, _, by omega, by go_num, HD, HV⟩
            case measure => simp [intOf]; omega
          · have HV := hide (show R = (zeroVS, 14) by rw [← HG.out.1, HIT.out, HFO.out]; rfl)
            have hres := HD.out.res
            rw [← HRR.out] at hres
            have HBE := hide (below_setRow (g := r + 1) HD.out.below (by rw [HRR.out]; omega) #[.string ⟨#[]⟩, .int .u32 0, .int .i64 0, .string ⟨#[]⟩, .int .u32 0, .int .i64 0, .string ⟨#[]⟩, .int .u32 0, .int .i64 0, .string ⟨#[]⟩, .int .u32 0, .int .i64 0])
            clear HD
            go_wp2_with (first | (refine wpList_store_row rfl 68 _ _ rfl (r + 1) #[.string ⟨#[]⟩, .int .u32 0, .int .i64 0, .string ⟨#[]⟩, .int .u32 0, .int .i64 0, .string ⟨#[]⟩, .int .u32 0, .int .i64 0, .string ⟨#[]⟩, .int .u32 0, .int .i64 0] rfl rfl 68 _ hres size_vals rfl (vsC_one zeroVS) ?_))
            refine bodyPost_ret (v := .tuple #[.agg #[.string ⟨#[]⟩, .int .u32 0, .int .i64 0, .string ⟨#[]⟩, .int .u32 0, .int .i64 0, .string ⟨#[]⟩, .int .u32 0, .int .i64 0, .string ⟨#[]⟩, .int .u32 0, .int .i64 0], .int .i64 14]) (results_vals rfl _ _ (r + 1) #[.string ⟨#[]⟩, .int .u32 0, .int .i64 0, .string ⟨#[]⟩, .int .u32 0, .int .i64 0, .string ⟨#[]⟩, .int .u32 0, .int .i64 0, .string ⟨#[]⟩, .int .u32 0, .int .i64 0] _ rfl rfl rfl (setRow_heap _ _ _ _ _ _ hres)) rfl ⟨?_, HBE.out⟩
            rw [HV.out]
            rfl
          · have HV := hide (show R = (zeroVS, 36) by rw [← HG.out.1, HIT.out, HFO.out]; rfl)
            have hres := HD.out.res
            rw [← HRR.out] at hres
            have HBE := hide (below_setRow (g := r + 1) HD.out.below (by rw [HRR.out]; omega) #[.string ⟨#[]⟩, .int .u32 0, .int .i64 0, .string ⟨#[]⟩, .int .u32 0, .int .i64 0, .string ⟨#[]⟩, .int .u32 0, .int .i64 0, .string ⟨#[]⟩, .int .u32 0, .int .i64 0])
            clear HD
            go_wp2_with (first | (refine wpList_store_row rfl 68 _ _ rfl (r + 1) #[.string ⟨#[]⟩, .int .u32 0, .int .i64 0, .string ⟨#[]⟩, .int .u32 0, .int .i64 0, .string ⟨#[]⟩, .int .u32 0, .int .i64 0, .string ⟨#[]⟩, .int .u32 0, .int .i64 0] rfl rfl 68 _ hres size_vals rfl (vsC_one zeroVS) ?_))
            refine bodyPost_ret (v := .tuple #[.agg #[.string ⟨#[]⟩, .int .u32 0, .int .i64 0, .string ⟨#[]⟩, .int .u32 0, .int .i64 0, .string ⟨#[]⟩, .int .u32 0, .int .i64 0, .string ⟨#[]⟩, .int .u32 0, .int .i64 0], .int .i64 36]) (results_vals rfl _ _ (r + 1) #[.string ⟨#[]⟩, .int .u32 0, .int .i64 0, .string ⟨#[]⟩, .int .u32 0, .int .i64 0, .string ⟨#[]⟩, .int .u32 0, .int .i64 0, .string ⟨#[]⟩, .int .u32 0, .int .i64 0] _ rfl rfl rfl (setRow_heap _ _ _ _ _ _ hres)) rfl ⟨?_, HBE.out⟩
            rw [HV.out]
            rfl
        · as_aux_lemma =>
          have b2 : ((kd : Int) == 2) = false := by simpa using (show ¬ (kd : Int) = 2 by omega)
          have b3 : ((kd : Int) == 3) = true := by simpa using (show (kd : Int) = 3 by omega)
          have HTX : Hid (Calls Tryz.prog 120 #[.pointer (some ⟨g, o, none⟩), .int .u64 ax, .int .i64 16] wr fun e w' => e = .returned (rgetV (getR m ax 16)) ∧ Below wr.heap.size wr w') := hide (by rw [HGO.out.1, HGO.out.2]; exact Vr.dget_any (HM.out.on HC.out.below) ax 16 hax64 (by omega))
          obtain ⟨G, hG⟩ : ∃ r, r = getR m ax 16 := ⟨_, rfl⟩
          rw [← hG] at HTX
          have HFO := hide (show followF m kd ax = follow3 G by rw [hG]; exact followF_3 (by omega))
          clear hG hkd hax hk2 hk3' hk3 hhit
          cases G with
          | none => as_aux_lemma =>
            unfold follow3 at HFO
            simp only at HFO
            unfold rgetV at HTX
            simp only at HTX
            have HAO := fun w => addrOf_any ⟨#[]⟩ w
            rw [show readR ⟨#[]⟩ = none from by rfl] at HAO
            unfold ofV at HAO
            simp only at HAO
            go_wp2_with (first | (go_at_call 44; refine (HKJ _).mono ?_; rintro e w' ⟨rfl, hw⟩; rw [hw]; clear hw w'))
            refine HTX.out.mono ?_
            rintro e X0 ⟨rfl, hX0⟩
            have hC0 := HC.out.on hX0
            clear hX0 HTX HC
            go_wp2_with fail
            refine (HAO X0).mono ?_
            rintro e X ⟨rfl, hX⟩
            have hC2 := hC0.on hX
            have s1 : X.cell? ⟨r + 2, i * 3 + 1, none⟩ = some (.int .u32 ((v i).ip : Nat)) := by rw [HRR.out, cell_of_row _ _ _ _ _ _ hC2.val]; exact (lvs_at v i hlt).2.1
            have f1 : X.frozen? ⟨r + 2, i * 3 + 1, none⟩ = false := by rw [HRR.out]; exact frozen_of_row _ _ _ _ _ hC2.val
            have hC3 := hC2.set (i * 3 + 1) (.int .u32 (0 : Nat))
            rw [vsC_ip v i hlt, ← HRR.out] at hC3
            have s2 : (X.setCell ⟨r + 2, i * 3 + 1, none⟩ (.int .u32 0)).cell? ⟨r + 2, i * 3 + 2, none⟩ = some (.int .i64 (v i).port) := by
              have h1 : (X.setCell ⟨r + 2, i * 3 + 1, none⟩ (.int .u32 0)).cell? ⟨r + 2, i * 3 + 2, none⟩ = _ := cell_of_row _ _ _ _ _ _ (by rw [HRR.out] at hC3 ⊢; exact hC3.val)
              rw [h1, (lvs_at _ i hlt).2.2, updF_same]
            have f2 : (X.setCell ⟨r + 2, i * 3 + 1, none⟩ (.int .u32 0)).frozen? ⟨r + 2, i * 3 + 2, none⟩ = false := frozen_of_row _ _ _ _ _ (by rw [HRR.out] at hC3 ⊢; exact hC3.val)
            have hC4 := hC3
            rw [HRR.out] at hC4
            have hD := hC4.set (i * 3 + 2) (.int .i64 ((0 : Nat) : Int))
            rw [vsC_port _ i hlt, ← HRR.out] at hD
            have HD := hide hD
            clear hC4 hD
            replace HD : Hid (LX W k _ ((X.setCell ⟨r + 2, i * 3 + 1, none⟩ (.int .u32 0)).setCell ⟨r + 2, i * 3 + 2, none⟩ (.int .i64 0))) := HD
            clear hC0 hC2 hC3 hX HAO
            have HV := hide (show R = (zeroVS, 14) by rw [← HG.out.1, HIT.out, HFO.out])
            have hres := HD.out.res
            rw [← HRR.out] at hres
            have HBE := hide (below_setRow (g := r + 1) HD.out.below (by rw [HRR.out]; omega) #[.string ⟨#[]⟩, .int .u32 0, .int .i64 0, .string ⟨#[]⟩, .int .u32 0, .int .i64 0, .string ⟨#[]⟩, .int .u32 0, .int .i64 0, .string ⟨#[]⟩, .int .u32 0, .int .i64 0])
            clear HD
            go_wp2_with (first | (refine wpList_store_row rfl 68 _ _ rfl (r + 1) #[.string ⟨#[]⟩, .int .u32 0, .int .i64 0, .string ⟨#[]⟩, .int .u32 0, .int .i64 0, .string ⟨#[]⟩, .int .u32 0, .int .i64 0, .string ⟨#[]⟩, .int .u32 0, .int .i64 0] rfl rfl 68 _ hres size_vals rfl (vsC_one zeroVS) ?_))
            refine bodyPost_ret (v := .tuple #[.agg #[.string ⟨#[]⟩, .int .u32 0, .int .i64 0, .string ⟨#[]⟩, .int .u32 0, .int .i64 0, .string ⟨#[]⟩, .int .u32 0, .int .i64 0, .string ⟨#[]⟩, .int .u32 0, .int .i64 0], .int .i64 14]) (results_vals rfl _ _ (r + 1) #[.string ⟨#[]⟩, .int .u32 0, .int .i64 0, .string ⟨#[]⟩, .int .u32 0, .int .i64 0, .string ⟨#[]⟩, .int .u32 0, .int .i64 0, .string ⟨#[]⟩, .int .u32 0, .int .i64 0] _ rfl rfl rfl (setRow_heap _ _ _ _ _ _ hres)) rfl ⟨?_, HBE.out⟩
            rw [HV.out]
            rfl
          | some l => as_aux_lemma =>
            unfold follow3 at HFO
            simp only at HFO
            unfold rgetV at HTX
            simp only at HTX
            obtain ⟨q, hq⟩ : ∃ q : ByteArray, q = ⟨(bytesOf l).toArray⟩ := ⟨_, rfl⟩
            rw [← hq] at HTX HFO
            have HAO := fun w => addrOf_any q w
            obtain ⟨rr, hrr⟩ : ∃ r, r = readR q := ⟨_, rfl⟩
            rw [← hrr] at HAO HFO
            clear hq hrr
            go_wp2_with (first | (go_at_call 44; refine (HKJ _).mono ?_; rintro e w' ⟨rfl, hw⟩; rw [hw]; clear hw w'))
            refine HTX.out.mono ?_
            rintro e X0 ⟨rfl, hX0⟩
            have hC0 := HC.out.on hX0
            clear hX0 HTX HC hle
            go_wp2_with fail
            cases rr with
            | none => as_aux_lemma =>
              unfold ofV at HAO
              simp only at HAO HFO
              refine (HAO X0).mono ?_
              rintro e X ⟨rfl, hX⟩
              have HD := hide (hC0.on hX)
              clear hC0 hX HAO
              have HV := hide (show R = (zeroVS, 22) by rw [← HG.out.1, HIT.out, HFO.out])
              have hres := HD.out.res
              rw [← HRR.out] at hres
              have HBE := hide (below_setRow (g := r + 1) HD.out.below (by rw [HRR.out]; omega) #[.string ⟨#[]⟩, .int .u32 0, .int .i64 0, .string ⟨#[]⟩, .int .u32 0, .int .i64 0, .string ⟨#[]⟩, .int .u32 0, .int .i64 0, .string ⟨#[]⟩, .int .u32 0, .int .i64 0])
              clear HD
              go_wp2_with (first | (refine wpList_store_row rfl 68 _ _ rfl (r + 1) #[.string ⟨#[]⟩, .int .u32 0, .int .i64 0, .string ⟨#[]⟩, .int .u32 0, .int .i64 0, .string ⟨#[]⟩, .int .u32 0, .int .i64 0, .string ⟨#[]⟩, .int .u32 0, .int .i64 0] rfl rfl 68 _ hres size_vals rfl (vsC_one zeroVS) ?_))
              refine bodyPost_ret (v := .tuple #[.agg #[.string ⟨#[]⟩, .int .u32 0, .int .i64 0, .string ⟨#[]⟩, .int .u32 0, .int .i64 0, .string ⟨#[]⟩, .int .u32 0, .int .i64 0, .string ⟨#[]⟩, .int .u32 0, .int .i64 0], .int .i64 22]) (results_vals rfl _ _ (r + 1) #[.string ⟨#[]⟩, .int .u32 0, .int .i64 0, .string ⟨#[]⟩, .int .u32 0, .int .i64 0, .string ⟨#[]⟩, .int .u32 0, .int .i64 0, .string ⟨#[]⟩, .int .u32 0, .int .i64 0] _ rfl rfl rfl (setRow_heap _ _ _ _ _ _ hres)) rfl ⟨?_, HBE.out⟩
              rw [HV.out]
              rfl
            | some pr => as_aux_lemma =>
              obtain ⟨ip, port⟩ := pr
              unfold ofV at HAO
              simp only at HAO HFO
              refine (HAO X0).mono ?_
              rintro e X ⟨rfl, hX⟩
              have hC2 := hC0.on hX
              have s1 : X.cell? ⟨r + 2, i * 3 + 1, none⟩ = some (.int .u32 ((v i).ip : Nat)) := by rw [HRR.out, cell_of_row _ _ _ _ _ _ hC2.val]; exact (lvs_at v i hlt).2.1
              have f1 : X.frozen? ⟨r + 2, i * 3 + 1, none⟩ = false := by rw [HRR.out]; exact frozen_of_row _ _ _ _ _ hC2.val
              have hC3 := hC2.set (i * 3 + 1) (.int .u32 (ip : Nat))
              rw [vsC_ip v i hlt, ← HRR.out] at hC3
              have s2 : (X.setCell ⟨r + 2, i * 3 + 1, none⟩ (.int .u32 (ip : Nat))).cell? ⟨r + 2, i * 3 + 2, none⟩ = some (.int .i64 (v i).port) := by
                have h1 : (X.setCell ⟨r + 2, i * 3 + 1, none⟩ (.int .u32 (ip : Nat))).cell? ⟨r + 2, i * 3 + 2, none⟩ = _ := cell_of_row _ _ _ _ _ _ (by rw [HRR.out] at hC3 ⊢; exact hC3.val)
                rw [h1, (lvs_at _ i hlt).2.2, updF_same]
              have f2 : (X.setCell ⟨r + 2, i * 3 + 1, none⟩ (.int .u32 (ip : Nat))).frozen? ⟨r + 2, i * 3 + 2, none⟩ = false := frozen_of_row _ _ _ _ _ (by rw [HRR.out] at hC3 ⊢; exact hC3.val)
              have hC4 := hC3
              rw [HRR.out] at hC4
              have hD := hC4.set (i * 3 + 2) (.int .i64 ((port : Nat) : Int))
              rw [vsC_port _ i hlt, updF_same, updF_again, hzv, ← HRR.out] at hD
              have HD := hide hD
              clear hC0 hC2 hC3 hC4 hD hX HAO
              have HV := hide (show leadsL m nr (regN k) (remL nr (i + 1)) (updF v i ⟨ByteArray.empty, ip, port⟩) = R ∧ ∀ j, i + 1 ≤ j → updF v i ⟨ByteArray.empty, ip, port⟩ j = zeroVL from ⟨by rw [← HG.out.1, HIT.out, HFO.out], fun j hj => by rw [updF_other _ _ (by omega)]; exact HG.out.2 j (by omega)⟩)
              go_wp2
              go_round
              case rel => exact ⟨i + 1, _, by omega, by go_num, HD, HV⟩
              case measure => simp [intOf]; omega
      · have hk1 : ¬ 2 ≤ kd := hk2
        as_aux_lemma =>
        have b2 : ((kd : Int) == 2) = false := by simpa using (show ¬ (kd : Int) = 2 by omega)
        have b3 : ((kd : Int) == 3) = false := by simpa using (show ¬ (kd : Int) = 3 by omega)
        have HV := hide (show leadsL m nr (regN k) (remL nr (i + 1)) v = R ∧ ∀ j, i + 1 ≤ j → v j = zeroVL from ⟨by rw [← remL_miss hlt (by rw [← hkd]; exact hk1)]; exact HG.out.1, fun j hj => HG.out.2 j (by omega)⟩)
        clear hkd hax hk2 hk1 hax64 c2 HG
        go_wp2_with (go_at_call 44; refine (HKJ _).mono ?_; rintro e w' ⟨rfl, hw⟩; rw [hw]; clear hw w')
        go_round
        case rel => exact ⟨i + 1, v, by omega, by go_num, HC, HV⟩
        case measure => simp [intOf]; omega
    · as_aux_lemma =>
      have hl : ¬ (i : Int) < 4 := by omega
      have h4 : i = 4 := by omega
      have HV := hide (show R = (vsOf v, 0) by rw [← HG.out.1, h4, remL_end]; rfl)
      have hres := HC.out.res
      have hval := HC.out.val
      rw [← HRR.out] at hres hval
      obtain ⟨vc, hvc⟩ : ∃ c, c = vsC (vsOf v) := ⟨_, rfl⟩
      have hvs : vc.size = 12 := by rw [hvc]; rfl
      have hv1 : vc.all (·.oneCell') = true := by rw [hvc]; exact vsC_one _
      have HVC := hide hvc
      rw [← hvc] at hval
      have HBE := hide (below_setRow (g := r + 1) HC.out.below (by rw [HRR.out]; omega) vc)
      clear h4 hlt HC HG hvc
      go_wp2_with (first
        | (refine wpList_load_row rfl 68 (.tmp 6) rfl (r + 2) rfl 68 vc (0, 0) _ hval Tryz.underlying68 rfl (by rw [hvs]; exact size_vals) ?_)
        | (refine wpList_store_row rfl 68 _ _ rfl (r + 1) vc rfl rfl 68 _ hres (by rw [hvs]; exact size_vals) (by rw [hvs]; rfl) hv1 ?_))
      refine bodyPost_ret (v := .tuple #[.agg vc, .int .i64 0]) (results_vals rfl _ _ (r + 1) vc _ hvs rfl rfl (setRow_heap _ _ _ _ _ _ hres)) rfl ⟨?_, HBE.out⟩
      rw [HV.out, HVC.out]
      rfl
end Go.Proofs.YtklibmijiecbfaaGreat

/- The document's holds and Fits. -/
namespace Go.Proofs.YtklibmijiecbfaaGreat
open Go.RowKit Go.Sort

set_option maxHeartbeats 2000000 in
theorem rholds_any (c : CD) (hc : CdOk c) (x : Nat) (hx : x < 18446744073709551616) (w : World) : Calls Tryz.prog 116 #[condV c, .int .u64 x] w fun e w' => e = .returned (.bool (holdsN c x)) ∧ Below w.heap.size w w' := by
  obtain ⟨arg, op, v, m, g, ⟨ip, b, lo, hi⟩⟩ := c
  have hand : bits .and .u64 (x : Int) (m : Int) = ((x &&& m : Nat) : Int) := u64_and_nat x m hx hc.m
  clear hc
  obtain ⟨y, hy⟩ : ∃ y : Nat, y = x &&& m := ⟨_, rfl⟩
  rw [← hy] at hand
  have HY := hide hy
  clear hy
  unfold condV
  simp only
  go_enter Tryz.func116, Tryz.ntmps116
  go_wp2
  all_goals
    go_ret
    refine ⟨ret_bool ?_, box_below _ _⟩
  all_goals
    clear hand
    first
    | (simp_all [holdsN]; done)
    | (rw [Bool.eq_iff_iff]; simp_all [holdsN]; done)
    | (rw [Bool.eq_iff_iff]; simp_all [holdsN]; omega)
    | (have := HY.out; rw [Bool.eq_iff_iff]; simp_all [holdsN]; omega)

theorem numB_of {c : CD} (h : Shape c) : numB c = !decide (7 < c.op) := by
  cases h with
  | num a k v ha h1 h6 hv =>
    unfold numB kindOp
    simp only
    rw [if_neg (by omega), if_neg (by omega), show decide ((7 : Int) < k) = false by simp; omega]
    rfl
  | mask => rfl
  | like => rfl
  | net => rfl
theorem any_take_snoc {α : Type} {f : α → Bool} {l : List α} {i : Nat} {c : α} (h : l.take (i + 1) = l.take i ++ [c]) : (l.take (i + 1)).any f = ((l.take i).any f || f c) := by rw [h, List.any_append]; simp
theorem all_take_snoc' {α : Type} {f : α → Bool} {l : List α} {i : Nat} {c : α} (h : l.take (i + 1) = l.take i ++ [c]) : (l.take (i + 1)).all f = ((l.take i).all f && f c) := by rw [h, List.all_append]; simp

set_option maxHeartbeats 4000000 in
theorem rfits_any (r : RL) (h : RuleOk r) (oa : Option Addr) (cap : Nat) (k : KL) (hk : KlOk k) (w : World) (hc : IsConds oa r.conds w) :
    Calls Tryz.prog 93 #[ruleV r oa cap, klV k] w fun e w' => e = .returned (.tuple #[.bool (fitsB r k), .bool (deepB r)]) ∧ Below w.heap.size w w' := by
  obtain ⟨n, hn⟩ : ∃ n, n = r.conds.length := ⟨_, rfl⟩
  have HC := hide (conds_parts hc n hn)
  have h4 : n ≤ 4 := by have := h.few; omega
  have HSH := hide h.conds
  have HL := hide (show ∀ i, i < n → ∃ c, r.conds[i]? = some c ∧ r.conds.take (i + 1) = r.conds.take i ++ [c] from fun i h => take_next (by omega))
  obtain ⟨m, hm⟩ : ∃ m : Nat, r.nr = m := ⟨r.nr.toNat, by have := h.nr0; omega⟩
  have HZ := hide (show fitsB r k = (decide ((k.nr : Int) = r.nr) && r.conds.all (regB k)) from rfl)
  have HDZ := hide (show deepB r = r.conds.any (fun c => !numB c) from rfl)
  obtain ⟨z, hz⟩ : ∃ z, z = fitsB r k := ⟨_, rfl⟩
  obtain ⟨dz, hdz⟩ : ∃ z, z = deepB r := ⟨_, rfl⟩
  rw [← hz] at HZ ⊢
  rw [← hdz] at HDZ ⊢
  have hm8 : m ≤ 8 := by have := h.nr8; omega
  clear hc hz hdz h
  obtain ⟨nr, cs, ⟨ak, ae⟩⟩ := r
  unfold ruleV klV klC
  simp only at HC HL HZ HDZ HSH hn hm ⊢
  subst hm
  rw [← hn]
  have HN := hide hn
  clear hn
  obtain ⟨V, hV, hB, hx, hy⟩ := two_box w #[.int .i64 m, .slice oa n cap, .int .i64 ak, .int .i64 ae] (klC k) 41 52
  have HY := hide hy
  have k0 := hx 0
  have k1 := hx 1
  have kn := hy 1
  simp only [klC, List.getElem?_toArray, List.getElem?_cons_zero, List.getElem?_cons_succ] at k0 k1 kn
  clear hx hy
  unfold klC at hV
  have HREG := hide (regN_at k)
  have HKO := hide (fun i => regN_lt hk i)
  have hkn : k.nr < 4294967296 := hk.nr
  obtain ⟨kar, hkar⟩ : ∃ x, x = k.arch := ⟨_, rfl⟩
  obtain ⟨knr, hknr⟩ : ∃ x, x = k.nr := ⟨_, rfl⟩
  obtain ⟨kb0, hkb0⟩ : ∃ x, x = k.a0 := ⟨_, rfl⟩
  obtain ⟨kb1, hkb1⟩ : ∃ x, x = k.a1 := ⟨_, rfl⟩
  obtain ⟨kb2, hkb2⟩ : ∃ x, x = k.a2 := ⟨_, rfl⟩
  obtain ⟨kb3, hkb3⟩ : ∃ x, x = k.a3 := ⟨_, rfl⟩
  rw [← hkar, ← hknr, ← hkb0, ← hkb1, ← hkb2, ← hkb3] at hV ⊢
  rw [← hknr] at kn HZ hkn
  obtain ⟨f0, hf0⟩ : ∃ f, f = ((m : Int) == (knr : Int)) := ⟨_, rfl⟩
  have HF0 := hide (show decide ((knr : Int) = m) = f0 by rw [hf0, Bool.eq_iff_iff]; simp; omega)
  rw [HF0.out] at HZ
  replace hf0 := hf0.symm
  clear hkar hknr hkb0 hkb1 hkb2 hkb3 hk
  go_enter Tryz.func93, Tryz.ntmps93
  go_wp2
  rw [← hV]
  clear hV
  go_loopw [6, 7, 8] (fun F D I w' => ∃ (i : Nat) (f d : Bool), i ≤ n ∧ F = .bool f ∧ D = .bool d ∧ I = .int .i64 i ∧ Hid (f = (f0 && (cs.take i).all (regB k))) ∧ Hid (d = (cs.take i).any (fun c => !numB c)) ∧ Hid (Below V.heap.size V w')) (fun _ _ I _ => n - (intOf I).toNat)
  case atStart => exact ⟨0, f0, false, by omega, rfl, rfl, rfl, hide (by simp), hide (by simp), hide (Below.refl _ _)⟩
  case round =>
    obtain ⟨i, f, d, hi, rfl, rfl, rfl, HF, HD, HB⟩ := hrel
    have HW := hide (below_next hB HB.out)
    have g1 := keep_cell HB.out k1
    clear hf0
    by_cases hlt : i < n
    · obtain ⟨c, hcs, hcat⟩ := HL.out i hlt
      obtain ⟨b, off, rfl, hbw, HA⟩ := HC.out (by omega)
      have hA := (HA.out i c hcs).on fun j => (bcell HW.out).1 b j hbw
      have hsh := HSH.out c (List.mem_of_getElem? hcs)
      have hnb := numB_of hsh
      have HQ := hide (all_take_snoc' (f := regB k) hcat)
      have HQD := hide (any_take_snoc (f := fun c => !numB c) hcat)
      have hok := hA.ok
      obtain ⟨a, haa, ha3⟩ := shape_arg hsh
      obtain ⟨x, hxx⟩ : ∃ x, x = regN k a := ⟨_, rfl⟩
      have hxl : x < 18446744073709551616 := by rw [hxx]; exact HKO.out a
      have kreg := (HY.out (2 + a)).trans (HREG.out a ha3)
      rw [← hxx] at kreg
      have HH := fun w => rholds_any c hok x hxl w
      have HRB := hide (show regB k c = (!numB c || holdsN c x) by unfold regB; rw [haa, Int.toNat_natCast, hxx])
      obtain ⟨hl, hhl⟩ : ∃ z, z = holdsN c x := ⟨_, rfl⟩
      rw [← hhl] at HH HRB
      rw [HRB.out] at HQ
      simp only [hnb] at HQ HQD
      obtain ⟨p0, p1, p2, p3, p4, p5, p6, p7, p8, _⟩ := hA
      clear hcs hcat hxx hxl hhl hok HRB hsh hnb
      obtain ⟨arg, op, v, mm, gl, ⟨ip, bb, lo, hh⟩⟩ := c
      unfold condV at HH
      simp only at p0 p1 p2 p3 p4 p5 p6 p7 p8 HH haa HQ HQD
      subst haa
      have i1 : (0 : Int) ≤ a := by omega
      have i2 : (a : Int) < 4 := by omega
      by_cases h7 : 7 < op
      · have d7 : decide ((7 : Int) < op) = true := by simpa using h7
        rw [d7] at HQ HQD
        clear HH kreg
        go_wp2
        go_round
        case rel => exact ⟨i + 1, f, true, by omega, rfl, rfl, by go_num, hide (by rw [HQ.out, HF.out]; simp), hide (by rw [HQD.out]; simp), hide (below_next HB.out (box_below _ _))⟩
        case measure => simp [intOf]; omega
      · have d7 : decide ((7 : Int) < op) = false := by simpa using h7
        rw [d7] at HQ HQD
        cases f with
        | false =>
          clear HH kreg
          go_wp2
          go_round
          case rel => exact ⟨i + 1, false, d, by omega, rfl, rfl, by go_num, hide (by rw [HQ.out, ← Bool.and_assoc, ← HF.out]; rfl), hide (by rw [HQD.out, HD.out]; simp), hide (below_next HB.out (box_below _ _))⟩
          case measure => simp [intOf]; omega
        | true =>
          go_wp2_with fail
          obtain ⟨W1, hW1, hW1b, _, hW1c⟩ := one_box wr #[.int .i64 a, .int .i64 op, .int .u64 v, .int .u64 mm, .string gl, .int .u32 ip, .int .i64 bb, .int .i64 lo, .int .i64 hh] 47
          rw [← hW1]
          clear hW1
          have g0 := cell_regrown (hW1c 0)
          have g1' := cell_regrown (hW1c 1)
          have g2 := cell_regrown (hW1c 2)
          have g3 := cell_regrown (hW1c 3)
          have g4 := cell_regrown (hW1c 4)
          have g5 := cell_regrown (hW1c 5)
          have g6 := cell_regrown (hW1c 6)
          have g7 := cell_regrown (hW1c 7)
          have g8 := cell_regrown (hW1c 8)
          have gr := cell_regrown (keep_cell (below_next HB.out hW1b) kreg)
          have cH : ∀ d os, Calls Tryz.prog 116 #[.agg #[.int .i64 a, .int .i64 op, .int .u64 v, .int .u64 mm, .string gl, .int .u32 ip, .int .i64 bb, .int .i64 lo, .int .i64 hh], .int .u64 x] (grow (redrawn W1 d) os) fun e w'' => e = .returned (.bool hl) ∧ ∃ p : Regrown, w'' = grow (redrawn W1 p.d) p.os := fun d os => Calls.regrown_of (HH _)
          clear hW1c p0 p1 p2 p3 p4 p5 p6 p7 p8 HH kreg
          refine wp_region_quiet_below (by kernel_rfl) (by kernel_rfl) ?_
          repeat (go_big_quiet_step ((go_at_call 116; exact cH _ _)))
          refine wpQuiet_nil ?_
          intro _ hw'
          obtain ⟨⟨dq, osq⟩, hw''⟩ := hw'
          subst hw''
          go_wp2
          go_round
          case rel => exact ⟨i + 1, hl, d, by omega, rfl, rfl, by go_num, hide (by rw [HQ.out, ← Bool.and_assoc, ← HF.out]; rfl), hide (by rw [HQD.out, HD.out]; simp), hide (below_next (below_next HB.out hW1b) (below_regrown _ _ _))⟩
          case measure => simp [intOf]; omega
    · obtain rfl : i = n := by omega
      rw [List.take_of_length_le (by rw [HN.out]; exact Nat.le_refl _)] at HF HD
      have HZ2 := hide (show f = z by rw [HF.out, HZ.out])
      have HD2 := hide (show d = dz by rw [HD.out, HDZ.out])
      go_wp2
      go_ret2
      exact ⟨by rw [HZ2.out, HD2.out]; rfl, HW.out⟩
end Go.Proofs.YtklibmijiecbfaaGreat

/- The document's Judge. -/
namespace Go.Proofs.YtklibmijiecbfaaGreat
open Go.RowKit Go.Sort

set_option maxHeartbeats 2000000 in
set_option maxRecDepth 100000 in
theorem rjudge_any (p : POL) (hok : PolOk p) (oa : Option Addr) (cap : Nat) (k : KL) (hk : KlOk k) (w : World) (hp : IsPol oa cap p w) :
    Calls Tryz.prog 65 #[polV p oa cap, klV k] w fun e w' => e = .returned (verV (judgeR p k)) ∧ Below w.heap.size w w' := by
  obtain ⟨n, hn⟩ : ∃ n, n = p.rules.length := ⟨_, rfl⟩
  obtain ⟨V, hV, hB, hVs, hx, hy, hz⟩ := three_box w #[.slice oa p.rules.length cap, .int .i64 p.els.kind, .int .i64 p.els.errno] (klC k) #[.int .i64 0, .int .i64 0, .int .i64 0] 26 52 121
  have HC := hide (pol_parts hp n hn)
  have HRU := hide hok.rules
  have h12 : n ≤ 12 := by have := hok.few; omega
  have HFT := fun r hr oa cap X hc => rfits_any r hr oa cap k hk X hc
  clear hp hok hk
  unfold klC at hV hy
  obtain ⟨rs, ⟨ak, ae⟩⟩ := p
  have HL := hide (show ∀ i, i < n → ∃ c, rs[i]? = some c ∧ rs.drop i = c :: rs.drop (i + 1) from fun i h => drop_next (by simp only at hn; omega))
  unfold polV klV klC at *
  simp only at *
  rw [← hn] at hV hx ⊢
  have HN := hide hn
  clear hn
  obtain ⟨kar, kn, b0, b1, b2, b3⟩ := k
  simp only at *
  have x0 := hx 0
  have x1 := hx 1
  have x2 := hx 2
  have y0 := hy 0
  have y1 := hy 1
  have y2 := hy 2
  have y3 := hy 3
  have y4 := hy 4
  have y5 := hy 5
  simp only [List.getElem?_toArray, List.getElem?_cons_zero, List.getElem?_cons_succ] at x0 x1 x2 y0 y1 y2 y3 y4 y5
  clear hx hy
  by_cases ha : kar = 3221225534
  · have HJ := hide (show judgeR ⟨rs, ⟨ak, ae⟩⟩ ⟨kar, kn, b0, b1, b2, b3⟩ = judgeFrom ⟨kar, kn, b0, b1, b2, b3⟩ ⟨ak, ae⟩ rs 0 from if_pos ha)
    have ha' : (kar : Int) = 3221225534 := by omega
    rw [ha'] at hV y0 ⊢
    have HKA := hide ha'
    clear ha ha'
    go_enter Tryz.func65, Tryz.ntmps65
    go_wp2
    rw [← hV]
    clear hV
    go_loopw [5] (fun I w' => ∃ i : Nat, i ≤ n ∧ I = .int .i64 i ∧ Hid (judgeFrom ⟨kar, kn, b0, b1, b2, b3⟩ ⟨ak, ae⟩ rs 0 = judgeFrom ⟨kar, kn, b0, b1, b2, b3⟩ ⟨ak, ae⟩ (rs.drop i) i) ∧ Hid (Below V.heap.size V w')) (fun I _ => n - (intOf I).toNat)
    case atStart => exact ⟨0, by omega, rfl, hide rfl, hide (Below.refl _ _)⟩
    case round =>
      obtain ⟨i, hi, rfl, HG, HB⟩ := hrel
      have HW := hide (below_next hB HB.out)
      have hsw : w.heap.size + 2 < V.heap.size := by omega
      have g0 := keep_cell HB.out x0
      by_cases hlt : i < n
      · obtain ⟨c, hcs, hdr⟩ := HL.out i hlt
        obtain ⟨b, off, rfl, hbw, HA⟩ := HC.out (by omega)
        obtain ⟨ca, cc, hR0⟩ := HA.out i c hcs
        have hR := hR0.on hbw HW.out
        clear hR0
        have hro := HRU.out c (List.mem_of_getElem? hcs)
        have HF1 := HFT c hro ca cc
        have HIC := hide hR.conds
        have HG2 := hide (show judgeFrom ⟨kar, kn, b0, b1, b2, b3⟩ ⟨ak, ae⟩ rs 0 = if fitsB c ⟨kar, kn, b0, b1, b2, b3⟩ then (if deepB c then (⟨4, 0⟩, i) else (c.act, 0)) else judgeFrom ⟨kar, kn, b0, b1, b2, b3⟩ ⟨ak, ae⟩ (rs.drop (i + 1)) (i + 1) by rw [HG.out, hdr, judgeFrom])
        obtain ⟨fz, hfz⟩ : ∃ z, z = fitsB c ⟨kar, kn, b0, b1, b2, b3⟩ := ⟨_, rfl⟩
        obtain ⟨dz, hdz⟩ : ∃ z, z = deepB c := ⟨_, rfl⟩
        rw [← hfz, ← hdz] at HF1 HG2
        obtain ⟨p0, p1, p2, p3, _, _, _, _⟩ := hR
        clear hfz hdz hro hcs hdr HG
        obtain ⟨nr, cs, ⟨rk, re⟩⟩ := c
        unfold ruleV at HF1
        simp only at p0 p1 p2 p3 HF1 HG2 HIC
        simp only [HKA.out] at HF1
        have z0 := keep_cell HB.out y0
        have z1 := keep_cell HB.out y1
        have z2 := keep_cell HB.out y2
        have z3 := keep_cell HB.out y3
        have z4 := keep_cell HB.out y4
        have z5 := keep_cell HB.out y5
        have G0 := cell_regrown g0
        have P0 := cell_regrown p0
        have P1 := cell_regrown p1
        have P2 := cell_regrown p2
        have P3 := cell_regrown p3
        have Z0 := cell_regrown z0
        have Z1 := cell_regrown z1
        have Z2 := cell_regrown z2
        have Z3 := cell_regrown z3
        have Z4 := cell_regrown z4
        have Z5 := cell_regrown z5
        have cF : ∀ d os, Calls Tryz.prog 93 #[.agg #[.int .i64 nr, .slice ca cs.length cc, .int .i64 rk, .int .i64 re], .agg #[.int .u32 3221225534, .int .u32 kn, .int .u64 b0, .int .u64 b1, .int .u64 b2, .int .u64 b3]] (grow (redrawn wr d) os) fun e w'' => e = .returned (.tuple #[.bool fz, .bool dz]) ∧ ∃ p : Regrown, w'' = grow (redrawn wr p.d) p.os := fun d os => Calls.regrown_of (HF1 _ (HIC.out.on (below_regrown wr d os)))
        have i1 : (0 : Int) ≤ i := by omega
        go_wp2_with fail
        clear z0 z1 z2 z3 z4 z5
        refine wp_region_quiet_below (by kernel_rfl) (by kernel_rfl) ?_
        repeat (go_big_quiet_step ((go_at_call 93; exact cF _ _)))
        refine wpQuiet_nil ?_
        intro _ hw'
        obtain ⟨⟨dq, osq⟩, hw''⟩ := hw'
        subst hw''
        have HBQ := hide (below_next HB.out (below_regrown wr dq osq))
        have hr2 : (grow (redrawn wr dq) osq).heap[w.heap.size + 2]? = some (.cells #[.int .i64 0, .int .i64 0, .int .i64 0] 121 (0, 0)) := (HBQ.out.block _ hsw).trans hz
        have q2 := P2 dq osq
        have q3 := P3 dq osq
        have q0 := G0 dq osq
        clear G0 P0 P1 P2 P3 Z0 Z1 Z2 Z3 Z4 Z5 cF p0 p1 p2 p3 g0
        obtain ⟨Y, hY⟩ : ∃ Y, Y = grow (redrawn wr dq) osq := ⟨_, rfl⟩
        rw [← hY] at HBQ hr2 q2 q3 q0 ⊢
        clear hY
        have hbY := HBQ.out.size
        cases fz with
        | false =>
          rw [if_neg (by decide)] at HG2
          go_wp2
          go_round
          case rel => exact ⟨i + 1, by omega, by go_num, HG2, HBQ⟩
          case measure => simp [intOf]; omega
        | true =>
          rw [if_pos rfl] at HG2
          cases dz with
          | true =>
            rw [if_pos rfl] at HG2
            go_wp2_with (refine wpList_store_row rfl 121 _ _ rfl (w.heap.size + 2) (verC ⟨4, 0⟩ i) rfl rfl 121 _ hr2 size_ver rfl (verC_one _ _) ?_)
            refine bodyPost_ret (v := .agg (verC ⟨4, 0⟩ i)) (results_cell_row rfl _ _ (w.heap.size + 2) 121 (verC ⟨4, 0⟩ i) (0, 0) _ rfl (setRow_heap _ _ _ _ _ _ hr2) Tryz.underlying121 rfl size_ver) rfl ⟨?_, below_setRow (below_next hB HBQ.out) (by omega) _⟩
            rw [HJ.out, HG2.out]
            rfl
          | false =>
            rw [if_neg (by decide)] at HG2
            go_wp2_with (refine wpList_store_row rfl 121 _ _ rfl (w.heap.size + 2) (verC ⟨rk, re⟩ 0) rfl rfl 121 _ hr2 size_ver rfl (verC_one _ _) ?_)
            refine bodyPost_ret (v := .agg (verC ⟨rk, re⟩ 0)) (results_cell_row rfl _ _ (w.heap.size + 2) 121 (verC ⟨rk, re⟩ 0) (0, 0) _ rfl (setRow_heap _ _ _ _ _ _ hr2) Tryz.underlying121 rfl size_ver) rfl ⟨?_, below_setRow (below_next hB HBQ.out) (by omega) _⟩
            rw [HJ.out, HG2.out]
            rfl
      · obtain rfl : i = n := by omega
        have HG2 := hide (show judgeFrom ⟨kar, kn, b0, b1, b2, b3⟩ ⟨ak, ae⟩ rs 0 = (⟨ak, ae⟩, 0) by
          rw [HG.out, List.drop_eq_nil_of_le (by rw [HN.out]; exact Nat.le_refl _), judgeFrom])
        have g1 := keep_cell HB.out x1
        have g2 := keep_cell HB.out x2
        have hr2 : wr.heap[w.heap.size + 2]? = some (.cells #[.int .i64 0, .int .i64 0, .int .i64 0] 121 (0, 0)) := (HB.out.block _ hsw).trans hz
        go_wp2_with (refine wpList_store_row rfl 121 _ _ rfl (w.heap.size + 2) (verC ⟨ak, ae⟩ 0) rfl rfl 121 _ hr2 size_ver rfl (verC_one _ _) ?_)
        refine bodyPost_ret (v := .agg (verC ⟨ak, ae⟩ 0)) (results_cell_row rfl _ _ (w.heap.size + 2) 121 (verC ⟨ak, ae⟩ 0) (0, 0) _ rfl (setRow_heap _ _ _ _ _ _ hr2) Tryz.underlying121 rfl size_ver) rfl ⟨?_, below_setRow HW.out (by omega) _⟩
        rw [HJ.out, HG2.out]
        rfl
  · have HJ := hide (show judgeR ⟨rs, ⟨ak, ae⟩⟩ ⟨kar, kn, b0, b1, b2, b3⟩ = (⟨3, 0⟩, 0) from if_neg ha)
    have ha' : ¬ (kar : Int) = 3221225534 := by omega
    clear ha
    go_enter Tryz.func65, Tryz.ntmps65
    have hzz := hz
    rw [hV] at hzz
    go_wp2_with (refine wpList_store_row rfl 121 _ _ rfl (w.heap.size + 2) (verC ⟨3, 0⟩ 0) rfl rfl 121 _ hzz size_ver rfl (verC_one _ _) ?_)
    rw [hV] at hB
    refine bodyPost_ret (v := .agg (verC ⟨3, 0⟩ 0)) (results_cell_row rfl _ _ (w.heap.size + 2) 121 (verC ⟨3, 0⟩ 0) (0, 0) _ rfl (setRow_heap _ _ _ _ _ _ hzz) Tryz.underlying121 rfl size_ver) rfl ⟨?_, below_setRow hB (by omega) _⟩
    rw [HJ.out]
    rfl
end Go.Proofs.YtklibmijiecbfaaGreat

/- The walk of the document's class. -/
namespace Go.Proofs.YtklibmijiecbfaaGreat.Gl
open Go.RowKit

/-- Where the class ends, or -1. -/
def rclassV (p : ByteArray) (t : Nat) : Int := match classR (p.extract t p.size) with
  | none => -1
  | some (_, n) => t + n
theorem rclassV_none {p : ByteArray} {t : Nat} (h : classR (p.extract t p.size) = none) : rclassV p t = -1 := by unfold rclassV; rw [h]
theorem rclassV_some {p : ByteArray} {t n : Nat} {f : Nat → Bool} (h : classR (p.extract t p.size) = some (f, n)) : rclassV p t = t + n := by unfold rclassV; rw [h]

theorem memberAt_extract (p : ByteArray) (t k : Nat) (ht : t ≤ p.size) (hk : t ≤ k) : memberAt (p.extract t p.size) (k - t) = memberN (p.size - k) (byteAt p k) (byteAt p (k + 1)) (byteAt p (k + 2)) := by
  unfold memberAt
  rw [size_extract, byteAt_extract p t _ ht, byteAt_extract p t _ ht, byteAt_extract p t _ ht, show t + (k - t) = k by omega, show t + (k - t + 1) = k + 1 by omega, show t + (k - t + 2) = k + 2 by omega, show p.size - t - (k - t) = p.size - k by omega]

/-- A member there, in absolute places. -/
theorem scan_member {p : ByteArray} {t k fu v : Nat} {f : Nat → Bool} (ht : t ≤ p.size) (hk : t ≤ k) (hlt : k < p.size) (hne : byteAt p k ≠ 93) (hm : memberN (p.size - k) (byteAt p k) (byteAt p (k + 1)) (byteAt p (k + 2)) = v) :
    (v = 0 → scan (fu + 1) (p.extract t p.size) (k - t) f = none) ∧ (v ≠ 0 → ∃ g, scan (fu + 1) (p.extract t p.size) (k - t) f = scan fu (p.extract t p.size) (k + v - t) g) := by
  have h1 : k - t < (p.extract t p.size).size ∧ byteAt (p.extract t p.size) (k - t) ≠ 93 := by
    rw [size_extract, byteAt_extract p t _ ht, show t + (k - t) = k by omega]
    exact ⟨by omega, hne⟩
  have h2 : memberAt (p.extract t p.size) (k - t) = v := (memberAt_extract p t k ht hk).trans hm
  constructor
  · intro hv
    rw [scan, if_pos h1, h2, if_pos hv]
  · intro hv
    rw [scan, if_pos h1, h2, if_neg hv, show k - t + v = k + v - t by omega]
    exact ⟨_, rfl⟩
theorem scan_stop {p : ByteArray} {t k fu : Nat} {f : Nat → Bool} (ht : t ≤ p.size) (hk : t ≤ k) (h : ¬ (k < p.size ∧ byteAt p k ≠ 93)) : scan (fu + 1) (p.extract t p.size) (k - t) f = some (k - t, f) := by
  rw [scan, if_neg]
  rw [size_extract, byteAt_extract p t _ ht, show t + (k - t) = k by omega]
  intro h'
  exact h ⟨by omega, h'.2⟩

set_option maxRecDepth 10000 in
set_option maxHeartbeats 1000000 in
theorem rclass_yes (p : ByteArray) (t : Nat) (_ht : t < p.size) (hz : p.size ≤ 1000) (hn : notB (p.extract t p.size) = true) (hlt1 : t + 1 < p.size) (b1 : ((byteAt p (t + 1) : Int) == 33) = true) (w : World) :
    Calls Tryz.prog 106 #[.string p, .int .i64 t] w fun e w' => e = .returned (.int .i64 (rclassV p t)) ∧ w' = w := by
  have hB : classBegin (p.extract t p.size) = 2 := by unfold classBegin; rw [hn]; rfl
  have hC : classR (p.extract t p.size) = classFin true 2 (p.size - t) (scan (p.size - t + 1) (p.extract t p.size) 2 fun _ => false) := by unfold classR; rw [hn, hB, size_extract]
  have HC := hide hC
  clear hC hB hn
  have e1 := byteAt_eq p (t + 1) hlt1
  have d0 : decide ((t : Int) + 1 < (p.size : Int)) = true := by simp; omega
  · skip
    go_enter Tryz.func106, Tryz.ntmps106
    go_wp2_with fail
    go_loop [5, 6] (fun i c => ∃ (k : Nat) (f : Nat → Bool) (cnt fuel : Nat), t ≤ k ∧ k ≤ p.size ∧ i = .int .i64 k ∧ c = .int .i64 cnt ∧ cnt + t + 2 ≤ k ∧ (cnt = 0 ↔ k = t + 2) ∧ p.size - k < fuel ∧ scan fuel (p.extract t p.size) (k - t) f = scan (p.size - t + 1) (p.extract t p.size) 2 (fun _ => false)) (fun i _ => p.size - (intOf i).toNat)
    case atStart => exact ⟨t + 2, fun _ => false, 0, p.size - t + 1, by omega, by omega, by go_num, rfl, by omega, by simp, by omega, by rw [show t + 2 - t = 2 by omega]⟩
    case round =>
      obtain ⟨k, f, cnt, fuel, hk1, hk2, rfl, rfl, hcnt, hcz, hfuel, hsc⟩ := hrel
      obtain ⟨fu, rfl⟩ : ∃ fu, fuel = fu + 1 := ⟨fuel - 1, by omega⟩
      have Hsc := hide hsc
      have Hcz := hide hcz
      clear hsc hcz
      by_cases hgo : k < p.size ∧ byteAt p k ≠ 93
      · obtain ⟨hlt, hne⟩ := hgo
        have ek := byteAt_eq p k hlt
        have bk : (((byteAt p k : Nat) : Int) != 93) = true := by rw [bne_iff_ne]; omega
        have dk : decide ((k : Int) < (p.size : Int)) = true := by simp; omega
        cases n0 : nameB (byteAt p k)
        · have hm : memberN (p.size - k) (byteAt p k) (byteAt p (k + 1)) (byteAt p (k + 2)) = 0 := by unfold memberN; rw [if_neg (by rw [n0]; simp)]
          have HV := hide (rclassV_none (by rw [HC.out, ← Hsc.out, (scan_member (by omega) hk1 hlt hne hm).1 rfl]; rfl))
          clear HC Hsc hm
          go_wp2_with (go_at_call 123; refine (letter_any _ _).mono ?_; rintro e w' ⟨rfl, rfl⟩)
          go_ret
          exact ⟨ret_int (by rw [HV.out]), rfl⟩
        · by_cases h1 : k + 1 < p.size
          · have d1 : decide ((k : Int) + 1 < (p.size : Int)) = true := by simp; omega
            have e1 := byteAt_eq p (k + 1) h1
            by_cases h45 : byteAt p (k + 1) = 45
            · have b45 : (((byteAt p (k + 1) : Nat) : Int) == 45) = true := by rw [beq_iff_eq]; omega
              by_cases h2 : k + 2 < p.size
              · have b2 : ((k : Int) + 1 + 1 == (p.size : Int)) = false := by rw [beq_eq_false_iff_ne]; omega
                have b2' : ((k : Int) + 2 == (p.size : Int)) = false := by rw [beq_eq_false_iff_ne]; omega
                have e2 := byteAt_eq p (k + 2) h2
                cases n2 : nameB (byteAt p (k + 2))
                · have hm : memberN (p.size - k) (byteAt p k) (byteAt p (k + 1)) (byteAt p (k + 2)) = 0 := by unfold memberN; rw [if_pos n0, if_neg (by omega), if_pos h45, if_neg (by omega), if_neg (by rw [n2]; simp)]
                  clear h45
                  have HV := hide (rclassV_none (by rw [HC.out, ← Hsc.out, (scan_member (by omega) hk1 hlt hne hm).1 rfl]; rfl))
                  clear HC Hsc hm
                  go_wp2_with (go_at_call 123; refine (letter_any _ _).mono ?_; rintro e w' ⟨rfl, rfl⟩)
                  go_ret
                  exact ⟨ret_int (by rw [HV.out]), rfl⟩
                · by_cases hlo : byteAt p (k + 2) < byteAt p k
                  · have dl : decide ((byteAt p (k + 2) : Int) < (byteAt p k : Int)) = true := by simp; omega
                    have hm : memberN (p.size - k) (byteAt p k) (byteAt p (k + 1)) (byteAt p (k + 2)) = 0 := by unfold memberN; rw [if_pos n0, if_neg (by omega), if_pos h45, if_neg (by omega), if_pos n2, if_pos hlo]
                    clear h45
                    have HV := hide (rclassV_none (by rw [HC.out, ← Hsc.out, (scan_member (by omega) hk1 hlt hne hm).1 rfl]; rfl))
                    clear HC Hsc hm
                    go_wp2_with (go_at_call 123; refine (letter_any _ _).mono ?_; rintro e w' ⟨rfl, rfl⟩)
                    go_ret
                    exact ⟨ret_int (by rw [HV.out]), rfl⟩
                  · have dl : decide ((byteAt p (k + 2) : Int) < (byteAt p k : Int)) = false := by simp; omega
                    have hm : memberN (p.size - k) (byteAt p k) (byteAt p (k + 1)) (byteAt p (k + 2)) = 3 := by unfold memberN; rw [if_pos n0, if_neg (by omega), if_pos h45, if_neg (by omega), if_pos n2, if_neg hlo]
                    clear h45
                    obtain ⟨g, hg⟩ := (scan_member (fu := fu) (f := f) (by omega) hk1 hlt hne hm).2 (by omega)
                    have HG := hide (hg.symm.trans Hsc.out)
                    clear hg HC Hsc hm
                    go_wp2_with (go_at_call 123; refine (letter_any _ _).mono ?_; rintro e w' ⟨rfl, rfl⟩)
                    go_round
                    case rel => exact ⟨k + 3, g, cnt + 1, fu, by omega, by omega, by go_num, by go_num, by omega, by omega, by omega, HG.out⟩
                    case measure => simp [intOf]; omega
              · have b2 : ((k : Int) + 1 + 1 == (p.size : Int)) = true := by rw [beq_iff_eq]; omega
                have b2' : ((k : Int) + 2 == (p.size : Int)) = true := by rw [beq_iff_eq]; omega
                have hm : memberN (p.size - k) (byteAt p k) (byteAt p (k + 1)) (byteAt p (k + 2)) = 0 := by unfold memberN; rw [if_pos n0, if_neg (by omega), if_pos h45, if_pos (by omega)]
                clear h45
                have HV := hide (rclassV_none (by rw [HC.out, ← Hsc.out, (scan_member (by omega) hk1 hlt hne hm).1 rfl]; rfl))
                clear HC Hsc hm
                go_wp2_with (go_at_call 123; refine (letter_any _ _).mono ?_; rintro e w' ⟨rfl, rfl⟩)
                go_ret
                exact ⟨ret_int (by rw [HV.out]), rfl⟩
            · have b45 : (((byteAt p (k + 1) : Nat) : Int) == 45) = false := by rw [beq_eq_false_iff_ne]; omega
              have hm : memberN (p.size - k) (byteAt p k) (byteAt p (k + 1)) (byteAt p (k + 2)) = 1 := by unfold memberN; rw [if_pos n0, if_neg (by omega), if_neg h45]
              clear h45
              obtain ⟨g, hg⟩ := (scan_member (fu := fu) (f := f) (by omega) hk1 hlt hne hm).2 (by omega)
              have HG := hide (hg.symm.trans Hsc.out)
              clear hg HC Hsc hm
              go_wp2_with (go_at_call 123; refine (letter_any _ _).mono ?_; rintro e w' ⟨rfl, rfl⟩)
              go_round
              case rel => exact ⟨k + 1, g, cnt + 1, fu, by omega, by omega, by go_num, by go_num, by omega, by omega, by omega, HG.out⟩
              case measure => simp [intOf]; omega
          · have d1 : decide ((k : Int) + 1 < (p.size : Int)) = false := by simp; omega
            have hm : memberN (p.size - k) (byteAt p k) (byteAt p (k + 1)) (byteAt p (k + 2)) = 1 := by unfold memberN; rw [if_pos n0, if_pos (by omega)]
            obtain ⟨g, hg⟩ := (scan_member (fu := fu) (f := f) (by omega) hk1 hlt hne hm).2 (by omega)
            have HG := hide (hg.symm.trans Hsc.out)
            clear hg HC Hsc hm
            go_wp2_with (go_at_call 123; refine (letter_any _ _).mono ?_; rintro e w' ⟨rfl, rfl⟩)
            go_round
            case rel => exact ⟨k + 1, g, cnt + 1, fu, by omega, by omega, by go_num, by go_num, by omega, by omega, by omega, HG.out⟩
            case measure => simp [intOf]; omega
      · have hst := scan_stop (fu := fu) (f := f) (by omega) hk1 hgo
        have hR0 : classR (p.extract t p.size) = classFin true 2 (p.size - t) (some (k - t, f)) := by rw [HC.out, ← Hsc.out, hst]
        clear HC Hsc hst
        by_cases hend : k = p.size
        · have HV := hide (rclassV_none (by rw [hR0]; simp [classFin, hend]))
          have dk : decide ((k : Int) < (p.size : Int)) = false := by simp; omega
          have be : ((k : Int) == (p.size : Int)) = true := by rw [beq_iff_eq]; omega
          clear hR0 hend hgo
          go_wp2_with fail
          go_ret
          exact ⟨ret_int (by rw [HV.out]), rfl⟩
        · have hlt : k < p.size := by omega
          have h93 : byteAt p k = 93 := Decidable.byContradiction fun h => hgo ⟨hlt, h⟩
          have ek := byteAt_eq p k hlt
          have bk : (((byteAt p k : Nat) : Int) != 93) = false := by rw [bne_eq_false_iff_eq]; omega
          have dk : decide ((k : Int) < (p.size : Int)) = true := by simp; omega
          have be : ((k : Int) == (p.size : Int)) = false := by rw [beq_eq_false_iff_ne]; omega
          clear hgo h93
          by_cases hb : cnt = 0
          · have hkb := Hcz.out.1 hb
            have HV := hide (rclassV_none (by rw [hR0]; simp [classFin, hkb]))
            have bc : ((cnt : Int) == 0) = true := by rw [beq_iff_eq]; omega
            clear hR0 hb hend hkb
            go_wp2_with fail
            go_ret
            exact ⟨ret_int (by rw [HV.out]), rfl⟩
          · have hkb : ¬ k = t + 2 := fun h => hb (Hcz.out.2 h)
            have HV := hide (rclassV_some (p := p) (t := t) (n := k - t + 1) (f := upd (if true = true then fun i => !f i else f) 47 false) (by rw [hR0]; simp only [classFin]; rw [if_neg (by omega)]))
            have bc : ((cnt : Int) == 0) = false := by rw [beq_eq_false_iff_ne]; omega
            clear hR0 hb hend hkb
            go_wp2_with fail
            go_ret
            exact ⟨ret_int (by rw [HV.out]; omega), rfl⟩

set_option maxRecDepth 10000 in
set_option maxHeartbeats 1000000 in
theorem rclass_no (p : ByteArray) (t : Nat) (_ht : t < p.size) (hz : p.size ≤ 1000) (hn : notB (p.extract t p.size) = false) (hlt1 : t + 1 < p.size) (b1 : ((byteAt p (t + 1) : Int) == 33) = false) (w : World) :
    Calls Tryz.prog 106 #[.string p, .int .i64 t] w fun e w' => e = .returned (.int .i64 (rclassV p t)) ∧ w' = w := by
  have hB : classBegin (p.extract t p.size) = 1 := by unfold classBegin; rw [hn]; rfl
  have hC : classR (p.extract t p.size) = classFin false 1 (p.size - t) (scan (p.size - t + 1) (p.extract t p.size) 1 fun _ => false) := by unfold classR; rw [hn, hB, size_extract]
  have HC := hide hC
  clear hC hB hn
  have e1 := byteAt_eq p (t + 1) hlt1
  have d0 : decide ((t : Int) + 1 < (p.size : Int)) = true := by simp; omega
  · skip
    go_enter Tryz.func106, Tryz.ntmps106
    go_wp2_with fail
    go_loop [5, 6] (fun i c => ∃ (k : Nat) (f : Nat → Bool) (cnt fuel : Nat), t ≤ k ∧ k ≤ p.size ∧ i = .int .i64 k ∧ c = .int .i64 cnt ∧ cnt + t + 1 ≤ k ∧ (cnt = 0 ↔ k = t + 1) ∧ p.size - k < fuel ∧ scan fuel (p.extract t p.size) (k - t) f = scan (p.size - t + 1) (p.extract t p.size) 1 (fun _ => false)) (fun i _ => p.size - (intOf i).toNat)
    case atStart => exact ⟨t + 1, fun _ => false, 0, p.size - t + 1, by omega, by omega, by go_num, rfl, by omega, by simp, by omega, by rw [show t + 1 - t = 1 by omega]⟩
    case round =>
      obtain ⟨k, f, cnt, fuel, hk1, hk2, rfl, rfl, hcnt, hcz, hfuel, hsc⟩ := hrel
      obtain ⟨fu, rfl⟩ : ∃ fu, fuel = fu + 1 := ⟨fuel - 1, by omega⟩
      have Hsc := hide hsc
      have Hcz := hide hcz
      clear hsc hcz
      by_cases hgo : k < p.size ∧ byteAt p k ≠ 93
      · obtain ⟨hlt, hne⟩ := hgo
        have ek := byteAt_eq p k hlt
        have bk : (((byteAt p k : Nat) : Int) != 93) = true := by rw [bne_iff_ne]; omega
        have dk : decide ((k : Int) < (p.size : Int)) = true := by simp; omega
        cases n0 : nameB (byteAt p k)
        · have hm : memberN (p.size - k) (byteAt p k) (byteAt p (k + 1)) (byteAt p (k + 2)) = 0 := by unfold memberN; rw [if_neg (by rw [n0]; simp)]
          have HV := hide (rclassV_none (by rw [HC.out, ← Hsc.out, (scan_member (by omega) hk1 hlt hne hm).1 rfl]; rfl))
          clear HC Hsc hm
          go_wp2_with (go_at_call 123; refine (letter_any _ _).mono ?_; rintro e w' ⟨rfl, rfl⟩)
          go_ret
          exact ⟨ret_int (by rw [HV.out]), rfl⟩
        · by_cases h1 : k + 1 < p.size
          · have d1 : decide ((k : Int) + 1 < (p.size : Int)) = true := by simp; omega
            have e1 := byteAt_eq p (k + 1) h1
            by_cases h45 : byteAt p (k + 1) = 45
            · have b45 : (((byteAt p (k + 1) : Nat) : Int) == 45) = true := by rw [beq_iff_eq]; omega
              by_cases h2 : k + 2 < p.size
              · have b2 : ((k : Int) + 1 + 1 == (p.size : Int)) = false := by rw [beq_eq_false_iff_ne]; omega
                have b2' : ((k : Int) + 2 == (p.size : Int)) = false := by rw [beq_eq_false_iff_ne]; omega
                have e2 := byteAt_eq p (k + 2) h2
                cases n2 : nameB (byteAt p (k + 2))
                · have hm : memberN (p.size - k) (byteAt p k) (byteAt p (k + 1)) (byteAt p (k + 2)) = 0 := by unfold memberN; rw [if_pos n0, if_neg (by omega), if_pos h45, if_neg (by omega), if_neg (by rw [n2]; simp)]
                  clear h45
                  have HV := hide (rclassV_none (by rw [HC.out, ← Hsc.out, (scan_member (by omega) hk1 hlt hne hm).1 rfl]; rfl))
                  clear HC Hsc hm
                  go_wp2_with (go_at_call 123; refine (letter_any _ _).mono ?_; rintro e w' ⟨rfl, rfl⟩)
                  go_ret
                  exact ⟨ret_int (by rw [HV.out]), rfl⟩
                · by_cases hlo : byteAt p (k + 2) < byteAt p k
                  · have dl : decide ((byteAt p (k + 2) : Int) < (byteAt p k : Int)) = true := by simp; omega
                    have hm : memberN (p.size - k) (byteAt p k) (byteAt p (k + 1)) (byteAt p (k + 2)) = 0 := by unfold memberN; rw [if_pos n0, if_neg (by omega), if_pos h45, if_neg (by omega), if_pos n2, if_pos hlo]
                    clear h45
                    have HV := hide (rclassV_none (by rw [HC.out, ← Hsc.out, (scan_member (by omega) hk1 hlt hne hm).1 rfl]; rfl))
                    clear HC Hsc hm
                    go_wp2_with (go_at_call 123; refine (letter_any _ _).mono ?_; rintro e w' ⟨rfl, rfl⟩)
                    go_ret
                    exact ⟨ret_int (by rw [HV.out]), rfl⟩
                  · have dl : decide ((byteAt p (k + 2) : Int) < (byteAt p k : Int)) = false := by simp; omega
                    have hm : memberN (p.size - k) (byteAt p k) (byteAt p (k + 1)) (byteAt p (k + 2)) = 3 := by unfold memberN; rw [if_pos n0, if_neg (by omega), if_pos h45, if_neg (by omega), if_pos n2, if_neg hlo]
                    clear h45
                    obtain ⟨g, hg⟩ := (scan_member (fu := fu) (f := f) (by omega) hk1 hlt hne hm).2 (by omega)
                    have HG := hide (hg.symm.trans Hsc.out)
                    clear hg HC Hsc hm
                    go_wp2_with (go_at_call 123; refine (letter_any _ _).mono ?_; rintro e w' ⟨rfl, rfl⟩)
                    go_round
                    case rel => exact ⟨k + 3, g, cnt + 1, fu, by omega, by omega, by go_num, by go_num, by omega, by omega, by omega, HG.out⟩
                    case measure => simp [intOf]; omega
              · have b2 : ((k : Int) + 1 + 1 == (p.size : Int)) = true := by rw [beq_iff_eq]; omega
                have b2' : ((k : Int) + 2 == (p.size : Int)) = true := by rw [beq_iff_eq]; omega
                have hm : memberN (p.size - k) (byteAt p k) (byteAt p (k + 1)) (byteAt p (k + 2)) = 0 := by unfold memberN; rw [if_pos n0, if_neg (by omega), if_pos h45, if_pos (by omega)]
                clear h45
                have HV := hide (rclassV_none (by rw [HC.out, ← Hsc.out, (scan_member (by omega) hk1 hlt hne hm).1 rfl]; rfl))
                clear HC Hsc hm
                go_wp2_with (go_at_call 123; refine (letter_any _ _).mono ?_; rintro e w' ⟨rfl, rfl⟩)
                go_ret
                exact ⟨ret_int (by rw [HV.out]), rfl⟩
            · have b45 : (((byteAt p (k + 1) : Nat) : Int) == 45) = false := by rw [beq_eq_false_iff_ne]; omega
              have hm : memberN (p.size - k) (byteAt p k) (byteAt p (k + 1)) (byteAt p (k + 2)) = 1 := by unfold memberN; rw [if_pos n0, if_neg (by omega), if_neg h45]
              clear h45
              obtain ⟨g, hg⟩ := (scan_member (fu := fu) (f := f) (by omega) hk1 hlt hne hm).2 (by omega)
              have HG := hide (hg.symm.trans Hsc.out)
              clear hg HC Hsc hm
              go_wp2_with (go_at_call 123; refine (letter_any _ _).mono ?_; rintro e w' ⟨rfl, rfl⟩)
              go_round
              case rel => exact ⟨k + 1, g, cnt + 1, fu, by omega, by omega, by go_num, by go_num, by omega, by omega, by omega, HG.out⟩
              case measure => simp [intOf]; omega
          · have d1 : decide ((k : Int) + 1 < (p.size : Int)) = false := by simp; omega
            have hm : memberN (p.size - k) (byteAt p k) (byteAt p (k + 1)) (byteAt p (k + 2)) = 1 := by unfold memberN; rw [if_pos n0, if_pos (by omega)]
            obtain ⟨g, hg⟩ := (scan_member (fu := fu) (f := f) (by omega) hk1 hlt hne hm).2 (by omega)
            have HG := hide (hg.symm.trans Hsc.out)
            clear hg HC Hsc hm
            go_wp2_with (go_at_call 123; refine (letter_any _ _).mono ?_; rintro e w' ⟨rfl, rfl⟩)
            go_round
            case rel => exact ⟨k + 1, g, cnt + 1, fu, by omega, by omega, by go_num, by go_num, by omega, by omega, by omega, HG.out⟩
            case measure => simp [intOf]; omega
      · have hst := scan_stop (fu := fu) (f := f) (by omega) hk1 hgo
        have hR0 : classR (p.extract t p.size) = classFin false 1 (p.size - t) (some (k - t, f)) := by rw [HC.out, ← Hsc.out, hst]
        clear HC Hsc hst
        by_cases hend : k = p.size
        · have HV := hide (rclassV_none (by rw [hR0]; simp [classFin, hend]))
          have dk : decide ((k : Int) < (p.size : Int)) = false := by simp; omega
          have be : ((k : Int) == (p.size : Int)) = true := by rw [beq_iff_eq]; omega
          clear hR0 hend hgo
          go_wp2_with fail
          go_ret
          exact ⟨ret_int (by rw [HV.out]), rfl⟩
        · have hlt : k < p.size := by omega
          have h93 : byteAt p k = 93 := Decidable.byContradiction fun h => hgo ⟨hlt, h⟩
          have ek := byteAt_eq p k hlt
          have bk : (((byteAt p k : Nat) : Int) != 93) = false := by rw [bne_eq_false_iff_eq]; omega
          have dk : decide ((k : Int) < (p.size : Int)) = true := by simp; omega
          have be : ((k : Int) == (p.size : Int)) = false := by rw [beq_eq_false_iff_ne]; omega
          clear hgo h93
          by_cases hb : cnt = 0
          · have hkb := Hcz.out.1 hb
            have HV := hide (rclassV_none (by rw [hR0]; simp [classFin, hkb]))
            have bc : ((cnt : Int) == 0) = true := by rw [beq_iff_eq]; omega
            clear hR0 hb hend hkb
            go_wp2_with fail
            go_ret
            exact ⟨ret_int (by rw [HV.out]), rfl⟩
          · have hkb : ¬ k = t + 1 := fun h => hb (Hcz.out.2 h)
            have HV := hide (rclassV_some (p := p) (t := t) (n := k - t + 1) (f := upd (if false = true then fun i => !f i else f) 47 false) (by rw [hR0]; simp only [classFin]; rw [if_neg (by omega)]))
            have bc : ((cnt : Int) == 0) = false := by rw [beq_eq_false_iff_ne]; omega
            clear hR0 hb hend hkb
            go_wp2_with fail
            go_ret
            exact ⟨ret_int (by rw [HV.out]; omega), rfl⟩

set_option maxRecDepth 10000 in
set_option maxHeartbeats 1000000 in
theorem rclass_end (p : ByteArray) (t : Nat) (_ht : t < p.size) (hz : p.size ≤ 1000) (hn : notB (p.extract t p.size) = false) (hlt1 : ¬ t + 1 < p.size) (w : World) :
    Calls Tryz.prog 106 #[.string p, .int .i64 t] w fun e w' => e = .returned (.int .i64 (rclassV p t)) ∧ w' = w := by
  have hB : classBegin (p.extract t p.size) = 1 := by unfold classBegin; rw [hn]; rfl
  have hC : classR (p.extract t p.size) = classFin false 1 (p.size - t) (scan (p.size - t + 1) (p.extract t p.size) 1 fun _ => false) := by unfold classR; rw [hn, hB, size_extract]
  have HC := hide hC
  clear hC hB hn
  have d0 : decide ((t : Int) + 1 < (p.size : Int)) = false := by simp; omega
  · skip
    go_enter Tryz.func106, Tryz.ntmps106
    go_wp2_with fail
    go_loop [5, 6] (fun i c => ∃ (k : Nat) (f : Nat → Bool) (cnt fuel : Nat), t ≤ k ∧ k ≤ p.size ∧ i = .int .i64 k ∧ c = .int .i64 cnt ∧ cnt + t + 1 ≤ k ∧ (cnt = 0 ↔ k = t + 1) ∧ p.size - k < fuel ∧ scan fuel (p.extract t p.size) (k - t) f = scan (p.size - t + 1) (p.extract t p.size) 1 (fun _ => false)) (fun i _ => p.size - (intOf i).toNat)
    case atStart => exact ⟨t + 1, fun _ => false, 0, p.size - t + 1, by omega, by omega, by go_num, rfl, by omega, by simp, by omega, by rw [show t + 1 - t = 1 by omega]⟩
    case round =>
      obtain ⟨k, f, cnt, fuel, hk1, hk2, rfl, rfl, hcnt, hcz, hfuel, hsc⟩ := hrel
      obtain ⟨fu, rfl⟩ : ∃ fu, fuel = fu + 1 := ⟨fuel - 1, by omega⟩
      have Hsc := hide hsc
      have Hcz := hide hcz
      clear hsc hcz
      by_cases hgo : k < p.size ∧ byteAt p k ≠ 93
      · exfalso; omega
      · have hst := scan_stop (fu := fu) (f := f) (by omega) hk1 hgo
        have hR0 : classR (p.extract t p.size) = classFin false 1 (p.size - t) (some (k - t, f)) := by rw [HC.out, ← Hsc.out, hst]
        clear HC Hsc hst
        by_cases hend : k = p.size
        · have HV := hide (rclassV_none (by rw [hR0]; simp [classFin, hend]))
          have dk : decide ((k : Int) < (p.size : Int)) = false := by simp; omega
          have be : ((k : Int) == (p.size : Int)) = true := by rw [beq_iff_eq]; omega
          clear hR0 hend hgo
          go_wp2_with fail
          go_ret
          exact ⟨ret_int (by rw [HV.out]), rfl⟩
        · have hlt : k < p.size := by omega
          have h93 : byteAt p k = 93 := Decidable.byContradiction fun h => hgo ⟨hlt, h⟩
          have ek := byteAt_eq p k hlt
          have bk : (((byteAt p k : Nat) : Int) != 93) = false := by rw [bne_eq_false_iff_eq]; omega
          have dk : decide ((k : Int) < (p.size : Int)) = true := by simp; omega
          have be : ((k : Int) == (p.size : Int)) = false := by rw [beq_eq_false_iff_ne]; omega
          clear hgo h93
          by_cases hb : cnt = 0
          · have hkb := Hcz.out.1 hb
            have HV := hide (rclassV_none (by rw [hR0]; simp [classFin, hkb]))
            have bc : ((cnt : Int) == 0) = true := by rw [beq_iff_eq]; omega
            clear hR0 hb hend hkb
            go_wp2_with fail
            go_ret
            exact ⟨ret_int (by rw [HV.out]), rfl⟩
          · have hkb : ¬ k = t + 1 := fun h => hb (Hcz.out.2 h)
            have HV := hide (rclassV_some (p := p) (t := t) (n := k - t + 1) (f := upd (if false = true then fun i => !f i else f) 47 false) (by rw [hR0]; simp only [classFin]; rw [if_neg (by omega)]))
            have bc : ((cnt : Int) == 0) = false := by rw [beq_eq_false_iff_ne]; omega
            clear hR0 hb hend hkb
            go_wp2_with fail
            go_ret
            exact ⟨ret_int (by rw [HV.out]; omega), rfl⟩

theorem rclass_any (p : ByteArray) (t : Nat) (ht : t < p.size) (hz : p.size ≤ 1000) (w : World) :
    Calls Tryz.prog 106 #[.string p, .int .i64 t] w fun e w' => e = .returned (.int .i64 (rclassV p t)) ∧ w' = w := by
  have h : notB (p.extract t p.size) = (decide (1 < p.size - t) && byteAt p (t + 1) == 33) := by unfold notB; rw [size_extract, byteAt_extract p t 1 (by omega)]
  cases hn : notB (p.extract t p.size)
  · by_cases hlt : t + 1 < p.size
    · rw [hn] at h
      refine rclass_no p t ht hz hn hlt ?_ w
      rw [beq_eq_false_iff_ne]
      intro h33
      rw [show byteAt p (t + 1) = 33 by omega] at h
      simp at h
      omega
    · exact rclass_end p t ht hz hn hlt w
  · rw [hn] at h
    have h' := h.symm
    simp at h'
    exact rclass_yes p t ht hz hn (by omega) (by rw [beq_iff_eq]; omega) w
end Go.Proofs.YtklibmijiecbfaaGreat.Gl
