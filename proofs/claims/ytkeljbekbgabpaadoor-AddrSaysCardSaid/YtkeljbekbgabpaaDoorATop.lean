/- TopAddr, walked. -/
import Derived.Test.YtkeljbekbgabpaaDoorATopLaws
import Derived.Test.YtkeljbekbgabpaaDoorAText
import Derived.Test.YtkeljbekbgabpaaDoorARead
import Derived.Deep.RegionWith
namespace Go.Proofs.YtkeljbekbgabpaaDoor
open Go.RowKit Go.Sort

/-- What is kept of the world. -/
def AX (w : World) (ip : Nat) (b lo hi : Int) (V : World) : Prop := Below w.heap.size w V ∧ V.heap[w.heap.size]? = some (.cells #[.int .u32 ip, .int .i64 b, .int .i64 lo, .int .i64 hi] 39 (0, 0)) ∧ Tab V
theorem AX.start (w : World) (ip : Nat) (b lo hi : Int) (ht : Tab w) : AX w ip b lo hi (w.alloc (.cells #[.int .u32 ip, .int .i64 b, .int .i64 lo, .int .i64 hi] 39)) :=
  ⟨(Below.refl _ _).alloc (Nat.le_refl _) _, heap_alloc_new w _, tab_on ht ((Below.refl _ _).alloc (Nat.le_refl _) _)⟩
theorem AX.on {w : World} {ip : Nat} {b lo hi : Int} {V Y : World} (h : AX w ip b lo hi V) (hb : Below V.heap.size V Y) : AX w ip b lo hi Y :=
  ⟨h.1.trans (hb.mono h.1.size), (hb.block _ (Array.getElem?_eq_some_iff.1 h.2.1).1).trans h.2.1, tab_on h.2.2 hb⟩
theorem AX.cells {w : World} {ip : Nat} {b lo hi : Int} {V : World} (h : AX w ip b lo hi V) : V.cell? ⟨w.heap.size, 0, none⟩ = some (.int .u32 ip) ∧ V.cell? ⟨w.heap.size, 1, none⟩ = some (.int .i64 b) ∧ V.cell? ⟨w.heap.size, 2, none⟩ = some (.int .i64 lo) ∧ V.cell? ⟨w.heap.size, 3, none⟩ = some (.int .i64 hi) :=
  ⟨cell_of_row _ _ 0 _ _ _ h.2.1, cell_of_row _ _ 1 _ _ _ h.2.1, cell_of_row _ _ 2 _ _ _ h.2.1, cell_of_row _ _ 3 _ _ _ h.2.1⟩
theorem read_back (x p : Nat) (hx : x < 4294967296) (hp : p ≤ 65535) (w : World) : Calls Tryd.prog 22 #[.string ⟨(bytesL x p).toArray⟩] w fun e w' => e = .returned (.tuple #[.int .u32 x, .int .i64 p, .nilIface]) ∧ Below w.heap.size w w' :=
  (read_any _ w).mono fun e w' ⟨he, hb⟩ => ⟨by rw [he, readR_bytes x p hx hp]; rfl, hb⟩
theorem text_bad (ip : Nat) (hip : ip < 4294967296) (b lo hi : Int) (hb : -9223372036854775808 ≤ b ∧ b ≤ 9223372036854775807) (hl : -9223372036854775808 ≤ lo ∧ lo ≤ 9223372036854775807) (hh : -9223372036854775808 ≤ hi ∧ hi ≤ 9223372036854775807) (hf : faultOf ip b lo hi ≠ 0) (w : World) (ht : Tab w) :
    ∃ n : Int, Calls Tryd.prog 13 #[netV ip b lo hi] w fun e w' => e = .returned (.tuple #[.string ⟨#[]⟩, .iface 23 (.int .i64 n)]) ∧ Below w.heap.size w w' :=
  ⟨_, (text_any ip hip b lo hi hb hl hh w ht).mono fun e w' ⟨he, hw⟩ => ⟨by rw [he]; unfold textV errV; rw [if_neg hf, if_neg hf], hw⟩⟩
theorem text_good (ip : Nat) (hip : ip < 4294967296) (b lo hi : Nat) (hf : faultOf ip b lo hi = 0) (w : World) (ht : Tab w) :
    Calls Tryd.prog 13 #[netV ip b lo hi] w fun e w' => e = .returned (.tuple #[.string ⟨(netText ip b lo hi).toArray⟩, .nilIface]) ∧ Below w.heap.size w w' := by
  obtain ⟨h1, h2, _⟩ := fault_ok hf
  exact (text_any ip hip b lo hi (by omega) (by omega) (by omega) w ht).mono fun e w' ⟨he, hw⟩ => ⟨by rw [he]; unfold textV; rw [if_pos hf, hf]; rfl, hw⟩
theorem netText_len {ip b lo hi : Nat} (hip : ip < 4294967296) (hf : faultOf ip b lo hi = 0) : (netText ip b lo hi).length ≤ 42 := by
  obtain ⟨h1, h2, _⟩ := fault_ok hf
  rw [← textK_all rfl]
  exact textK_len _ rfl (fun k => getD_lt (fun n hn => by
      simp only [netNums, List.mem_cons, List.not_mem_nil, or_false] at hn
      omega) k) 6 (Nat.le_refl _)
theorem parse_good (ip : Nat) (hip : ip < 4294967296) (b lo hi : Nat) (hf : faultOf ip b lo hi = 0) (w : World) :
    Calls Tryd.prog 18 #[.string ⟨(netText ip b lo hi).toArray⟩] w fun e w' => e = .returned (.tuple #[netV ip b lo hi, .nilIface]) ∧ Below w.heap.size w w' := by
  have hl := netText_len hip hf
  exact (aparse_any _ (by simp [ByteArray.size]; omega) w).mono fun e w' ⟨he, hw⟩ => ⟨by rw [he, parse_text hip hf]; rfl, hw⟩

theorem andNot_bit (ip k : Nat) (hip : ip < 4294967296) (hk : 1 ≤ k) (hk2 : k ≤ 32) (hr : ip % restN (k : Int).toNat = 0) : bits .andNot .u32 (ip : Int) ((2 : Int) ^ (32 - k) % 4294967296) = (wideIp ip k : Nat) := by
  rw [Int.toNat_natCast] at hr
  have e : ((2 : Int) ^ (32 - k)) = ((restN k : Nat) : Int) := by unfold restN; simp
  have hlt : restN k < 4294967296 := by
    unfold restN
    exact Nat.lt_of_le_of_lt (Nat.pow_le_pow_right (n := 2) (j := 31) (by decide) (by omega)) (by decide)
  rw [e, show ((restN k : Nat) : Int) % 4294967296 = (restN k : Nat) by omega, u32_andNot_nat _ _ hip hlt, clear_bit ip k hip hk hk2 hr]
theorem wide_on {w V7 V8 : World} {ip : Nat} {b lo hi : Int} {o : Array Value} (h : Hid (AX w ip b lo hi (V7.alloc (.cells o 39)))) (hb : Below ((V7.alloc (.cells o 39)).drew).heap.size ((V7.alloc (.cells o 39)).drew) V8) :
    Hid (AX w ip b lo hi V8) ∧ V8.heap[V7.heap.size]? = some (.cells o 39 (0, 0)) := by
  have hb' : Below (V7.alloc (.cells o 39)).heap.size (V7.alloc (.cells o 39)) V8 := ⟨hb.os, hb.tape, hb.output, hb.size, hb.block⟩
  exact ⟨hide (h.out.on hb'), (hb'.block _ (by simp)).trans (heap_alloc_new _ _)⟩

set_option maxHeartbeats 2000000 in
theorem topAddr_any (ip : Nat) (hip : ip < 4294967296) (b lo hi : Int) (hb : -9223372036854775808 ≤ b ∧ b ≤ 9223372036854775807) (hl : -9223372036854775808 ≤ lo ∧ lo ≤ 9223372036854775807) (hh : -9223372036854775808 ≤ hi ∧ hi ≤ 9223372036854775807)
    (x : Nat) (hx : x < 4294967296) (port : Int) (hp : -9223372036854775808 ≤ port ∧ port ≤ 9223372036854775807) (w : World) (ht : Tab w) :
    Calls Tryd.prog 5 #[netV ip b lo hi, .int .u32 x, .int .i64 port] w fun e w' => e = .returned (.bool true) ∧ Below w.heap.size w w' := by
  have HS := hide (AX.start w ip b lo hi ht)
  clear ht
  go_enter Tryd.func5, Tryd.ntmps5
  by_cases hr : port < 0 ∨ 65535 < port
  · go_wp2_with (first
      | (go_at_call 20; refine (bytes_bad _ _ hr _).mono ?_; rintro e V ⟨rfl, rfl⟩; obtain ⟨c0, c1, c2, c3⟩ := HS.out.cells)
      | (go_at_call 13; refine Hid.out ?_))
    refine hide ?_
    have HA := HS
    clear hr HS
    by_cases hf : faultOf ip b lo hi = 0
    · obtain ⟨⟨hb0, hb32⟩, ⟨hl0, hlh, hh6⟩, hr⟩ := fault_ok hf
      obtain ⟨k, rfl⟩ : ∃ k : Nat, b = k := ⟨b.toNat, by omega⟩
      obtain ⟨lo, rfl⟩ : ∃ k : Nat, lo = k := ⟨lo.toNat, by omega⟩
      obtain ⟨hi, rfl⟩ : ∃ k : Nat, hi = k := ⟨hi.toNat, by omega⟩
      have HP := fun V => parse_good ip hip k lo hi hf V
      obtain ⟨tx, htx⟩ : ∃ t : ByteArray, t = ⟨(netText ip k lo hi).toArray⟩ := ⟨_, rfl⟩
      rw [← htx] at HP
      refine (text_good ip hip k lo hi hf _ HA.out.2.2).mono ?_
      rw [← htx]
      clear htx
      rintro e V3 ⟨rfl, hV3⟩
      have HA3 := hide (HA.out.on hV3)
      clear hV3 c0 c1 c2 c3
      go_wp2_with (go_at_call 18; refine (HP _).mono ?_; rintro e V4 ⟨rfl, hV4⟩; have HA4 := hide (HA3.out.on hV4); clear hV4; refine Hid.out ?_)
      refine hide ?_
      have HA := hide (HA4.out.on ((Below.refl _ _).alloc (Nat.le_refl _) (.cells #[.int .u32 ip, .int .i64 k, .int .i64 lo, .int .i64 hi] 39)))
      obtain ⟨c0, c1, c2, c3⟩ := HA.out.cells
      have HL := hide (has_self ip k lo hi lo hf (by omega) (by omega))
      have HH := hide (has_self ip k lo hi hi hf (by omega) (by omega))
      go_wp2_with (go_at_call 16; refine (has_any ip hip k lo hi hb hl hh ip hip _ _).mono ?_; first | (rw [HL.out]; rintro e V6 ⟨rfl, hV6⟩; have HA := hide (HA.out.on hV6); clear hV6 c0 c1 c2 c3; obtain ⟨c0, c1, c2, c3⟩ := HA.out.cells) | (rw [HH.out]; rintro e V7 ⟨rfl, hV7⟩; have HA := hide (HA.out.on hV7); clear hV7 c0 c1 c2 c3; obtain ⟨c0, c1, c2, c3⟩ := HA.out.cells; refine Hid.out ?_))
      refine hide ?_
      by_cases hk : k = 0
      · subst hk
        go_wp2
        go_ret
        exact ⟨rfl, HA.out.1⟩
      · have hk1 : 1 ≤ k := by omega
        have bk : ((k : Int) == 0) = false := by rw [beq_eq_false_iff_ne]; omega
        have HZ := fun (a : Nat) (b : Int) => hide (HA.out.on ((Below.refl _ _).alloc (Nat.le_refl _) (.cells #[.int .u32 a, .int .i64 b, .int .i64 lo, .int .i64 hi] 39)))
        have z0 := fun (a : Nat) (b : Int) => (HZ a b).out.cells.1
        have z1 := fun (a : Nat) (b : Int) => (HZ a b).out.cells.2.1
        have z2 := fun (a : Nat) (b : Int) => (HZ a b).out.cells.2.2.1
        have z3 := fun (a : Nat) (b : Int) => (HZ a b).out.cells.2.2.2
        have hbits := andNot_bit ip k hip hk1 (by omega) hr
        have HEW := hide (show errV (faultOf (wideIp ip k) ((k : Int) - 1) lo hi) = .nilIface by rw [wide_fault ip k lo hi hip hk1 hf]; rfl)
        have HWI := hide (wideIp_lt ip k hip)
        have HWH := hide (wide_has ip k x lo hi port hip hk1 hf)
        obtain ⟨wi, hwi⟩ : ∃ n, n = wideIp ip k := ⟨_, rfl⟩
        rw [← hwi] at hbits HEW HWI HWH
        clear hwi hf hr
        go_wp2
        go_region
        go_wp2_with (go_at_call 14; refine (acheck_any wi HWI.out ((k : Int) - 1) lo hi (by omega) hl hh _).mono ?_; rw [HEW.out]; rintro e V8 ⟨rfl, hV8⟩; obtain ⟨HA8, hw8⟩ := wide_on (HZ wi ((k : Int) - 1)) hV8; clear hV8; obtain ⟨c0, c1, c2, c3⟩ := HA8.out.cells; refine Hid.out ?_)
        refine hide ?_
        cases hv : hasOf ip k lo hi x port with
        | false =>
          have HV := hide hv
          clear hv
          go_wp2_with (go_at_call 16; refine (has_any ip hip k lo hi hb hl hh x hx port _).mono ?_; rw [HV.out]; rintro e V9 ⟨rfl, hV9⟩)
          go_ret
          exact ⟨rfl, (HA8.out.on hV9).1⟩
        | true =>
          have HV := hide hv
          have HW := hide (HWH.out hv)
          clear hv
          go_wp2_with (go_at_call 16; refine (has_any ip hip k lo hi hb hl hh x hx port _).mono ?_; rw [HV.out]; rintro e V9 ⟨rfl, hV9⟩; have HA9 := hide (HA8.out.on hV9); have hw9 := (hV9.block _ (Array.getElem?_eq_some_iff.1 hw8).1).trans hw8; clear hV9; have d0 := cell_of_row _ _ 0 _ _ _ hw9; have d1 := cell_of_row _ _ 1 _ _ _ hw9; have d2 := cell_of_row _ _ 2 _ _ _ hw9; have d3 := cell_of_row _ _ 3 _ _ _ hw9; refine Hid.out ?_)
          refine hide ?_
          go_wp2_with (go_at_call 16; refine (has_any wi HWI.out ((k : Int) - 1) lo hi (by omega) hl hh x hx port _).mono ?_; rw [HW.out]; rintro e V10 ⟨rfl, hV10⟩)
          go_ret
          exact ⟨rfl, (HA9.out.on hV10).1⟩
    · obtain ⟨n, hT⟩ := text_bad ip hip b lo hi hb hl hh hf _ HA.out.2.2
      have HN := hide (show hasOf ip b lo hi x port = false by unfold hasOf; rw [decide_eq_false hf, Bool.false_and])
      refine hT.mono ?_
      clear hT hf
      rintro e V3 ⟨rfl, hV3⟩
      have HA3 := hide (HA.out.on hV3)
      clear hV3 c0 c1 c2 c3
      obtain ⟨c0, c1, c2, c3⟩ := HA3.out.cells
      go_wp2_with (go_at_call 16; refine (has_any ip hip b lo hi hb hl hh x hx port _).mono ?_; rw [HN.out]; rintro e V4 ⟨rfl, hV4⟩)
      go_ret
      exact ⟨rfl, (HA3.out.on hV4).1⟩
  · obtain ⟨p, rfl⟩ : ∃ p : Nat, port = p := ⟨port.toNat, by omega⟩
    have hp2 : p ≤ 65535 := by omega
    clear hr
    go_wp2_with (first
      | (go_at_call 20; refine (bytes_any x hx p hp2 _).mono ?_; rintro e V ⟨rfl, hV⟩; have HV := hide (HS.out.on hV); clear hV)
      | (go_at_call 22; refine (read_back x p hx hp2 _).mono ?_; rintro e V2 ⟨rfl, hV2⟩; have HV2 := hide (HV.out.on hV2); clear hV2; obtain ⟨c0, c1, c2, c3⟩ := HV2.out.cells)
      | (go_at_call 13; refine Hid.out ?_))
    refine hide ?_
    have HA := HV2
    clear HV2 HV HS
    by_cases hf : faultOf ip b lo hi = 0
    · obtain ⟨⟨hb0, hb32⟩, ⟨hl0, hlh, hh6⟩, hr⟩ := fault_ok hf
      obtain ⟨k, rfl⟩ : ∃ k : Nat, b = k := ⟨b.toNat, by omega⟩
      obtain ⟨lo, rfl⟩ : ∃ k : Nat, lo = k := ⟨lo.toNat, by omega⟩
      obtain ⟨hi, rfl⟩ : ∃ k : Nat, hi = k := ⟨hi.toNat, by omega⟩
      have HP := fun V => parse_good ip hip k lo hi hf V
      obtain ⟨tx, htx⟩ : ∃ t : ByteArray, t = ⟨(netText ip k lo hi).toArray⟩ := ⟨_, rfl⟩
      rw [← htx] at HP
      refine (text_good ip hip k lo hi hf _ HA.out.2.2).mono ?_
      rw [← htx]
      clear htx
      rintro e V3 ⟨rfl, hV3⟩
      have HA3 := hide (HA.out.on hV3)
      clear hV3 c0 c1 c2 c3
      go_wp2_with (go_at_call 18; refine (HP _).mono ?_; rintro e V4 ⟨rfl, hV4⟩; have HA4 := hide (HA3.out.on hV4); clear hV4; refine Hid.out ?_)
      refine hide ?_
      have HA := hide (HA4.out.on ((Below.refl _ _).alloc (Nat.le_refl _) (.cells #[.int .u32 ip, .int .i64 k, .int .i64 lo, .int .i64 hi] 39)))
      obtain ⟨c0, c1, c2, c3⟩ := HA.out.cells
      have HL := hide (has_self ip k lo hi lo hf (by omega) (by omega))
      have HH := hide (has_self ip k lo hi hi hf (by omega) (by omega))
      go_wp2_with (go_at_call 16; refine (has_any ip hip k lo hi hb hl hh ip hip _ _).mono ?_; first | (rw [HL.out]; rintro e V6 ⟨rfl, hV6⟩; have HA := hide (HA.out.on hV6); clear hV6 c0 c1 c2 c3; obtain ⟨c0, c1, c2, c3⟩ := HA.out.cells) | (rw [HH.out]; rintro e V7 ⟨rfl, hV7⟩; have HA := hide (HA.out.on hV7); clear hV7 c0 c1 c2 c3; obtain ⟨c0, c1, c2, c3⟩ := HA.out.cells; refine Hid.out ?_))
      refine hide ?_
      by_cases hk : k = 0
      · subst hk
        go_wp2
        go_ret
        exact ⟨rfl, HA.out.1⟩
      · have hk1 : 1 ≤ k := by omega
        have bk : ((k : Int) == 0) = false := by rw [beq_eq_false_iff_ne]; omega
        have HZ := fun (a : Nat) (b : Int) => hide (HA.out.on ((Below.refl _ _).alloc (Nat.le_refl _) (.cells #[.int .u32 a, .int .i64 b, .int .i64 lo, .int .i64 hi] 39)))
        have z0 := fun (a : Nat) (b : Int) => (HZ a b).out.cells.1
        have z1 := fun (a : Nat) (b : Int) => (HZ a b).out.cells.2.1
        have z2 := fun (a : Nat) (b : Int) => (HZ a b).out.cells.2.2.1
        have z3 := fun (a : Nat) (b : Int) => (HZ a b).out.cells.2.2.2
        have hbits := andNot_bit ip k hip hk1 (by omega) hr
        have HEW := hide (show errV (faultOf (wideIp ip k) ((k : Int) - 1) lo hi) = .nilIface by rw [wide_fault ip k lo hi hip hk1 hf]; rfl)
        have HWI := hide (wideIp_lt ip k hip)
        have HWH := hide (wide_has ip k x lo hi p hip hk1 hf)
        obtain ⟨wi, hwi⟩ : ∃ n, n = wideIp ip k := ⟨_, rfl⟩
        rw [← hwi] at hbits HEW HWI HWH
        clear hwi hf hr
        go_wp2
        go_region
        go_wp2_with (go_at_call 14; refine (acheck_any wi HWI.out ((k : Int) - 1) lo hi (by omega) hl hh _).mono ?_; rw [HEW.out]; rintro e V8 ⟨rfl, hV8⟩; obtain ⟨HA8, hw8⟩ := wide_on (HZ wi ((k : Int) - 1)) hV8; clear hV8; obtain ⟨c0, c1, c2, c3⟩ := HA8.out.cells; refine Hid.out ?_)
        refine hide ?_
        cases hv : hasOf ip k lo hi x p with
        | false =>
          have HV := hide hv
          clear hv
          go_wp2_with (go_at_call 16; refine (has_any ip hip k lo hi hb hl hh x hx p _).mono ?_; rw [HV.out]; rintro e V9 ⟨rfl, hV9⟩)
          go_ret
          exact ⟨rfl, (HA8.out.on hV9).1⟩
        | true =>
          have HV := hide hv
          have HW := hide (HWH.out hv)
          clear hv
          go_wp2_with (go_at_call 16; refine (has_any ip hip k lo hi hb hl hh x hx p _).mono ?_; rw [HV.out]; rintro e V9 ⟨rfl, hV9⟩; have HA9 := hide (HA8.out.on hV9); have hw9 := (hV9.block _ (Array.getElem?_eq_some_iff.1 hw8).1).trans hw8; clear hV9; have d0 := cell_of_row _ _ 0 _ _ _ hw9; have d1 := cell_of_row _ _ 1 _ _ _ hw9; have d2 := cell_of_row _ _ 2 _ _ _ hw9; have d3 := cell_of_row _ _ 3 _ _ _ hw9; refine Hid.out ?_)
          refine hide ?_
          go_wp2_with (go_at_call 16; refine (has_any wi HWI.out ((k : Int) - 1) lo hi (by omega) hl hh x hx p _).mono ?_; rw [HW.out]; rintro e V10 ⟨rfl, hV10⟩)
          go_ret
          exact ⟨rfl, (HA9.out.on hV10).1⟩
    · obtain ⟨n, hT⟩ := text_bad ip hip b lo hi hb hl hh hf _ HA.out.2.2
      have HN := hide (show hasOf ip b lo hi x p = false by unfold hasOf; rw [decide_eq_false hf, Bool.false_and])
      refine hT.mono ?_
      clear hT hf
      rintro e V3 ⟨rfl, hV3⟩
      have HA3 := hide (HA.out.on hV3)
      clear hV3 c0 c1 c2 c3
      obtain ⟨c0, c1, c2, c3⟩ := HA3.out.cells
      go_wp2_with (go_at_call 16; refine (has_any ip hip b lo hi hb hl hh x hx p _).mono ?_; rw [HN.out]; rintro e V4 ⟨rfl, hV4⟩)
      go_ret
      exact ⟨rfl, (HA3.out.on hV4).1⟩
end Go.Proofs.YtkeljbekbgabpaaDoor
