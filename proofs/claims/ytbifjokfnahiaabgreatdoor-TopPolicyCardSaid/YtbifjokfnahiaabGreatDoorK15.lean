/- policy.Text: a cond. -/
import Derived.Test.YtbifjokfnahiaabGreatDoorK13
import Derived.Test.YtbifjokfnahiaabGreatDoorK14
namespace Go.Proofs.YtbifjokfnahiaabGreatDoor
open Go.RowKit Go.Sort

theorem sign_len (j : Nat) (h : j ≤ 8) : (signW.getD j []).length ≤ 2 := by
  rcases nine h with rfl | rfl | rfl | rfl | rfl | rfl | rfl | rfl | rfl <;> decide
theorem bs32 : (⟨#[32]⟩ : ByteArray) = bs [32] := rfl
theorem netText_len {ip b lo hi : Nat} (hf : faultOf ip b lo hi = 0) (hip : ip < 4294967296) : (netText ip b lo hi).length ≤ 100 := by
  have hfo := fault_ok hf
  have hb : ∀ k, (netNums ip b lo hi).getD k 0 < 100000 := fun k => getD_lt (fun n hn => by
    simp only [netNums, List.mem_cons, List.not_mem_nil, or_false] at hn
    omega) k
  have := textK_len (netNums ip b lo hi) rfl hb 6 (by omega)
  rw [textK_all rfl] at this
  omega
theorem bs34 : (⟨#[34]⟩ : ByteArray) = bs [34] := rfl
set_option maxHeartbeats 4000000 in
theorem condText_num (a : Nat) (ha : a ≤ 3) (j v : Nat) (hj : j ≤ 5) (hv : v < 18446744073709551616) (w : World) (hE : EV w) : Calls Tryz.prog 37 #[.agg #[.int .i64 a, .int .i64 ((j : Int) + 1), .int .u64 v, .int .u64 0, .string ByteArray.empty, .int .u32 0, .int .i64 0, .int .i64 0, .int .i64 0]] w fun e w' => e = .returned (.string (bs (Lib.decDigits a ++ 32 :: (signW.getD j [] ++ 32 :: Lib.decDigits v)))) ∧ Below w.heap.size w w' := by
  have HI := fun X hX => itoa_any a (by omega) X hX
  have hl : (Lib.decDigits a).length ≤ 20 := nDigits_le20 a (by omega)
  have hsl : (signW.getD j []).length ≤ 2 := sign_len j (by omega)
  obtain ⟨d, hd⟩ : ∃ d : ByteArray, d = ⟨(Lib.decDigits a).toArray⟩ := ⟨_, rfl⟩
  have hds : d.size ≤ 20 := by rw [hd]; simpa [ByteArray.size] using hl
  rw [← hd] at HI
  obtain ⟨s, hs⟩ : ∃ d : ByteArray, d = bs (signW.getD j []) := ⟨_, rfl⟩
  have hss : s.size ≤ 2 := by rw [hs, bs_size]; exact hsl
  have hsg := fun X (hX : EV X) => hX.sign j (by omega)
  rw [← hs] at hsg
  have Hy := fun X hX => numText_any v hv X hX
  have hly : (Lib.decDigits v).length ≤ 20 := nDigits_le20 v hv
  obtain ⟨y, hy⟩ : ∃ d : ByteArray, d = ⟨(Lib.decDigits v).toArray⟩ := ⟨_, rfl⟩
  have hsy : y.size ≤ 20 := by rw [hy]; simpa [ByteArray.size] using hly
  rw [← hy] at Hy
  have HV := hide (show bs (Lib.decDigits a ++ 32 :: (signW.getD j [] ++ 32 :: Lib.decDigits v)) = d ++ ⟨#[32]⟩ ++ s ++ ⟨#[32]⟩ ++ y by
    rw [hd, hs, hy, show (⟨(Lib.decDigits a).toArray⟩ : ByteArray) = bs (Lib.decDigits a) from rfl, show (⟨(Lib.decDigits v).toArray⟩ : ByteArray) = bs (Lib.decDigits v) from rfl, bs32, bs_append, bs_append, bs_append, bs_append]
    simp)
  clear hd hs hy hly
  obtain ⟨R, hR⟩ : ∃ R : ByteArray, R = bs (Lib.decDigits a ++ 32 :: (signW.getD j [] ++ 32 :: Lib.decDigits v)) := ⟨_, rfl⟩
  rw [← hR] at HV ⊢
  clear hR
  have HE := hide hE
  clear hE hl hsl
  have hw1 : IntKind.i64.wrap ((j : Int) + 1 - 1) = j := by rw [IntKind.wrap_i64]; omega
  have hw2 : (j : Int) + 1 - 1 = j := by omega
  have i1 : (0 : Int) ≤ j := by omega
  have i2 : (j : Int) < 9 := by omega
  have n7 : ¬ (j : Int) + 1 = 7 := by omega
  have n8 : ¬ (j : Int) + 1 = 8 := by omega
  have n9 : ¬ (j : Int) + 1 = 9 := by omega
  have z1 : ¬ 9223372036854775807 < d.size + 1 := by omega
  have z2 : ¬ 9223372036854775807 < d.size + 1 + s.size := by omega
  have z3 : ¬ 9223372036854775807 < d.size + 1 + s.size + 1 := by omega
  have z4 : ¬ 9223372036854775807 < d.size + 1 + s.size + 1 + y.size := by omega
  go_enter Tryz.func37, Tryz.ntmps37
  go_wp2
  obtain ⟨V, hV, hB, hsz, hx⟩ := one_box w #[.int .i64 a, .int .i64 ((j : Int) + 1), .int .u64 v, .int .u64 0, .string ByteArray.empty, .int .u32 0, .int .i64 0, .int .i64 0, .int .i64 0] 60
  rw [← hV]
  clear hV
  have HB := hide hB
  have HEV := hide (HE.out.on hB)
  clear hB
  have g0 := cell_regrown (hx 0)
  have g1 := cell_regrown (hx 1)
  have g2 := cell_regrown (hx 2)
  have g3 := cell_regrown (hx 3)
  have g4 := cell_regrown (hx 4)
  have g5 := cell_regrown (hx 5)
  have g6 := cell_regrown (hx 6)
  have g7 := cell_regrown (hx 7)
  have g8 := cell_regrown (hx 8)
  have gs := cell_regrown (hsg V HEV.out)
  have gs0 := cell_regrown (HEV.out.sign 0 (by omega))
  have cI : ∀ d' os, Calls Tryz.prog 36 #[.int .i64 a] (grow (redrawn V d') os) fun e w'' => e = .returned (.string d) ∧ ∃ p : Regrown, w'' = grow (redrawn V p.d) p.os := fun d' os => Calls.regrown_of (HI _ (HEV.out.on (below_regrown _ _ _)).tab)
  clear hx hsg HI
  refine wp_region_quiet_below (by kernel_rfl) (by kernel_rfl) ?_
  repeat (go_big_quiet_step (first | (go_at_call 36; exact cI _ _)))
  refine wpQuiet_nil ?_
  intro _ hw'
  obtain ⟨⟨dq, osq⟩, hw''⟩ := hw'
  subst hw''
  go_wp2_with (go_at_call 48; refine (Hy _ (HEV.out.on (below_regrown _ _ _)).tab).mono ?_; rintro e w' ⟨rfl, hb⟩)
  go_ret
  exact ⟨by rw [HV.out]; rfl, below_next (HB.out.trans ((below_regrown V dq osq).mono HB.out.size)) hb⟩
set_option maxHeartbeats 4000000 in
theorem condText_mask (a : Nat) (ha : a ≤ 3) (v m : Nat) (hv : v < 18446744073709551616) (hm : m < 18446744073709551616) (w : World) (hE : EV w) : Calls Tryz.prog 37 #[.agg #[.int .i64 a, .int .i64 7, .int .u64 v, .int .u64 m, .string ByteArray.empty, .int .u32 0, .int .i64 0, .int .i64 0, .int .i64 0]] w fun e w' => e = .returned (.string (bs (Lib.decDigits a ++ 32 :: (signW.getD 6 [] ++ 32 :: (Lib.decDigits m ++ 32 :: ([61, 61] ++ 32 :: Lib.decDigits v)))))) ∧ Below w.heap.size w w' := by
  have HI := fun X hX => itoa_any a (by omega) X hX
  have hl : (Lib.decDigits a).length ≤ 20 := nDigits_le20 a (by omega)
  have hsl : (signW.getD 6 []).length ≤ 2 := sign_len 6 (by omega)
  obtain ⟨d, hd⟩ : ∃ d : ByteArray, d = ⟨(Lib.decDigits a).toArray⟩ := ⟨_, rfl⟩
  have hds : d.size ≤ 20 := by rw [hd]; simpa [ByteArray.size] using hl
  rw [← hd] at HI
  obtain ⟨s, hs⟩ : ∃ d : ByteArray, d = bs (signW.getD 6 []) := ⟨_, rfl⟩
  have hss : s.size ≤ 2 := by rw [hs, bs_size]; exact hsl
  have hsg := fun X (hX : EV X) => hX.sign 6 (by omega)
  rw [← hs] at hsg
  have Hy := fun X hX => numText_any v hv X hX
  have hly : (Lib.decDigits v).length ≤ 20 := nDigits_le20 v hv
  obtain ⟨y, hy⟩ : ∃ d : ByteArray, d = ⟨(Lib.decDigits v).toArray⟩ := ⟨_, rfl⟩
  have hsy : y.size ≤ 20 := by rw [hy]; simpa [ByteArray.size] using hly
  rw [← hy] at Hy
  have Hx := fun X hX => numText_any m hm X hX
  have hlx : (Lib.decDigits m).length ≤ 20 := nDigits_le20 m hm
  obtain ⟨x, hx⟩ : ∃ d : ByteArray, d = ⟨(Lib.decDigits m).toArray⟩ := ⟨_, rfl⟩
  have hsx : x.size ≤ 20 := by rw [hx]; simpa [ByteArray.size] using hlx
  rw [← hx] at Hx
  have HV := hide (show bs (Lib.decDigits a ++ 32 :: (signW.getD 6 [] ++ 32 :: (Lib.decDigits m ++ 32 :: ([61, 61] ++ 32 :: Lib.decDigits v)))) = d ++ ⟨#[32]⟩ ++ s ++ ⟨#[32]⟩ ++ x ++ ⟨#[32]⟩ ++ bs (signW.getD 0 []) ++ ⟨#[32]⟩ ++ y by
    rw [hd, hs, hy, hx, show (⟨(Lib.decDigits a).toArray⟩ : ByteArray) = bs (Lib.decDigits a) from rfl, show (⟨(Lib.decDigits v).toArray⟩ : ByteArray) = bs (Lib.decDigits v) from rfl, show (⟨(Lib.decDigits m).toArray⟩ : ByteArray) = bs (Lib.decDigits m) from rfl, bs32, bs_append, bs_append, bs_append, bs_append, bs_append, bs_append, bs_append, bs_append]
    simp [signW])
  clear hd hs hy hx hly hlx
  obtain ⟨R, hR⟩ : ∃ R : ByteArray, R = bs (Lib.decDigits a ++ 32 :: (signW.getD 6 [] ++ 32 :: (Lib.decDigits m ++ 32 :: ([61, 61] ++ 32 :: Lib.decDigits v)))) := ⟨_, rfl⟩
  rw [← hR] at HV ⊢
  clear hR
  have HE := hide hE
  clear hE hl hsl
  have z1 : ¬ 9223372036854775807 < d.size + 1 := by omega
  have z2 : ¬ 9223372036854775807 < d.size + 1 + s.size := by omega
  have z3 : ¬ 9223372036854775807 < d.size + 1 + s.size + 1 := by omega
  go_enter Tryz.func37, Tryz.ntmps37
  go_wp2
  obtain ⟨V, hV, hB, hsz, hx⟩ := one_box w #[.int .i64 a, .int .i64 7, .int .u64 v, .int .u64 m, .string ByteArray.empty, .int .u32 0, .int .i64 0, .int .i64 0, .int .i64 0] 60
  rw [← hV]
  clear hV
  have HB := hide hB
  have HEV := hide (HE.out.on hB)
  clear hB
  have g0 := cell_regrown (hx 0)
  have g1 := cell_regrown (hx 1)
  have g2 := cell_regrown (hx 2)
  have g3 := cell_regrown (hx 3)
  have g4 := cell_regrown (hx 4)
  have g5 := cell_regrown (hx 5)
  have g6 := cell_regrown (hx 6)
  have g7 := cell_regrown (hx 7)
  have g8 := cell_regrown (hx 8)
  have gs := cell_regrown (hsg V HEV.out)
  have gs0 := cell_regrown (HEV.out.sign 0 (by omega))
  have cI : ∀ d' os, Calls Tryz.prog 36 #[.int .i64 a] (grow (redrawn V d') os) fun e w'' => e = .returned (.string d) ∧ ∃ p : Regrown, w'' = grow (redrawn V p.d) p.os := fun d' os => Calls.regrown_of (HI _ (HEV.out.on (below_regrown _ _ _)).tab)
  clear hx hsg HI
  refine wp_region_quiet_below (by kernel_rfl) (by kernel_rfl) ?_
  repeat (go_big_quiet_step (first | (go_at_call 36; exact cI _ _)))
  refine wpQuiet_nil ?_
  intro _ hw'
  obtain ⟨⟨dq, osq⟩, hw''⟩ := hw'
  subst hw''
  have cY : ∀ d' os, Calls Tryz.prog 48 #[.int .u64 v] (grow (redrawn (grow (redrawn V dq) osq) d') os) fun e w'' => e = .returned (.string y) ∧ ∃ p : Regrown, w'' = grow (redrawn (grow (redrawn V dq) osq) p.d) p.os := fun d' os => Calls.regrown_of (Hy _ ((HEV.out.on (below_regrown _ _ _)).on (below_regrown _ _ _)).tab)
  have cX : ∀ d' os, Calls Tryz.prog 48 #[.int .u64 m] (grow (redrawn (grow (redrawn V dq) osq) d') os) fun e w'' => e = .returned (.string x) ∧ ∃ p : Regrown, w'' = grow (redrawn (grow (redrawn V dq) osq) p.d) p.os := fun d' os => Calls.regrown_of (Hx _ ((HEV.out.on (below_regrown _ _ _)).on (below_regrown _ _ _)).tab)
  have q2 := cell_regrown (g2 dq osq)
  have q3 := cell_regrown (g3 dq osq)
  have q0 := cell_regrown (gs0 dq osq)
  obtain ⟨ee, hee⟩ : ∃ e : ByteArray, e = bs (signW.getD 0 []) := ⟨_, rfl⟩
  rw [← hee] at q0 HV
  have hes : ee.size = 2 := by rw [hee]; rfl
  clear hee
  have z4 : ¬ 9223372036854775807 < d.size + 1 + s.size + 1 + x.size := by omega
  have z5 : ¬ 9223372036854775807 < d.size + 1 + s.size + 1 + x.size + 1 := by omega
  have z6 : ¬ 9223372036854775807 < d.size + 1 + s.size + 1 + x.size + 1 + ee.size := by omega
  have z7 : ¬ 9223372036854775807 < d.size + 1 + s.size + 1 + x.size + 1 + ee.size + 1 := by omega
  have z8 : ¬ 9223372036854775807 < d.size + 1 + s.size + 1 + x.size + 1 + ee.size + 1 + y.size := by omega
  go_wp2
  refine wp_region_quiet_below (by kernel_rfl) (by kernel_rfl) ?_
  repeat (go_big_quiet_step (first | (go_at_call_of 48 (Value.int IntKind.u64 (v : Int)); exact cY _ _) | (go_at_call_of 48 (Value.int IntKind.u64 (m : Int)); exact cX _ _)))
  refine wpQuiet_nil ?_
  intro _ hw'
  obtain ⟨⟨dq2, osq2⟩, hw''⟩ := hw'
  subst hw''
  go_wp2
  go_ret
  exact ⟨by rw [HV.out]; rfl, below_next (HB.out.trans ((below_regrown V dq osq).mono HB.out.size)) (below_regrown _ _ _)⟩
set_option maxHeartbeats 4000000 in
theorem condText_like (a : Nat) (ha : a ≤ 3) (g : ByteArray) (hg : g.size ≤ 24) (w : World) (hE : EV w) : Calls Tryz.prog 37 #[.agg #[.int .i64 a, .int .i64 8, .int .u64 0, .int .u64 0, .string g, .int .u32 0, .int .i64 0, .int .i64 0, .int .i64 0]] w fun e w' => e = .returned (.string (bs (Lib.decDigits a ++ 32 :: (signW.getD 7 [] ++ 32 :: (34 :: (g.data.toList ++ [34])))))) ∧ Below w.heap.size w w' := by
  have HI := fun X hX => itoa_any a (by omega) X hX
  have hl : (Lib.decDigits a).length ≤ 20 := nDigits_le20 a (by omega)
  have hsl : (signW.getD 7 []).length ≤ 2 := sign_len 7 (by omega)
  obtain ⟨d, hd⟩ : ∃ d : ByteArray, d = ⟨(Lib.decDigits a).toArray⟩ := ⟨_, rfl⟩
  have hds : d.size ≤ 20 := by rw [hd]; simpa [ByteArray.size] using hl
  rw [← hd] at HI
  obtain ⟨s, hs⟩ : ∃ d : ByteArray, d = bs (signW.getD 7 []) := ⟨_, rfl⟩
  have hss : s.size ≤ 2 := by rw [hs, bs_size]; exact hsl
  have hsg := fun X (hX : EV X) => hX.sign 7 (by omega)
  rw [← hs] at hsg
  have HV := hide (show bs (Lib.decDigits a ++ 32 :: (signW.getD 7 [] ++ 32 :: (34 :: (g.data.toList ++ [34])))) = d ++ ⟨#[32]⟩ ++ s ++ ⟨#[32]⟩ ++ ⟨#[34]⟩ ++ g ++ ⟨#[34]⟩ by
    rw [hd, hs, show (⟨(Lib.decDigits a).toArray⟩ : ByteArray) = bs (Lib.decDigits a) from rfl, bs32, bs34, bs_append, bs_append, bs_append, bs_append]
    conv => rhs; rw [← bs_of g, bs_append, bs_append]
    simp)
  clear hd hs
  obtain ⟨R, hR⟩ : ∃ R : ByteArray, R = bs (Lib.decDigits a ++ 32 :: (signW.getD 7 [] ++ 32 :: (34 :: (g.data.toList ++ [34])))) := ⟨_, rfl⟩
  rw [← hR] at HV ⊢
  clear hR
  have HE := hide hE
  clear hE hl hsl
  have z1 : ¬ 9223372036854775807 < d.size + 1 := by omega
  have z2 : ¬ 9223372036854775807 < d.size + 1 + s.size := by omega
  have z3 : ¬ 9223372036854775807 < d.size + 1 + s.size + 1 := by omega
  have z4 : ¬ 9223372036854775807 < d.size + 1 + s.size + 1 + 1 := by omega
  have z5 : ¬ 9223372036854775807 < d.size + 1 + s.size + 1 + 1 + g.size := by omega
  have z6 : ¬ 9223372036854775807 < d.size + 1 + s.size + 1 + 1 + g.size + 1 := by omega
  go_enter Tryz.func37, Tryz.ntmps37
  go_wp2
  obtain ⟨V, hV, hB, hsz, hx⟩ := one_box w #[.int .i64 a, .int .i64 8, .int .u64 0, .int .u64 0, .string g, .int .u32 0, .int .i64 0, .int .i64 0, .int .i64 0] 60
  rw [← hV]
  clear hV
  have HB := hide hB
  have HEV := hide (HE.out.on hB)
  clear hB
  have g0 := cell_regrown (hx 0)
  have g1 := cell_regrown (hx 1)
  have g2 := cell_regrown (hx 2)
  have g3 := cell_regrown (hx 3)
  have g4 := cell_regrown (hx 4)
  have g5 := cell_regrown (hx 5)
  have g6 := cell_regrown (hx 6)
  have g7 := cell_regrown (hx 7)
  have g8 := cell_regrown (hx 8)
  have gs := cell_regrown (hsg V HEV.out)
  have gs0 := cell_regrown (HEV.out.sign 0 (by omega))
  have cI : ∀ d' os, Calls Tryz.prog 36 #[.int .i64 a] (grow (redrawn V d') os) fun e w'' => e = .returned (.string d) ∧ ∃ p : Regrown, w'' = grow (redrawn V p.d) p.os := fun d' os => Calls.regrown_of (HI _ (HEV.out.on (below_regrown _ _ _)).tab)
  clear hx hsg HI
  refine wp_region_quiet_below (by kernel_rfl) (by kernel_rfl) ?_
  repeat (go_big_quiet_step (first | (go_at_call 36; exact cI _ _)))
  refine wpQuiet_nil ?_
  intro _ hw'
  obtain ⟨⟨dq, osq⟩, hw''⟩ := hw'
  subst hw''
  have q4 := g4 dq osq
  go_wp2
  go_ret
  exact ⟨by rw [HV.out]; rfl, HB.out.trans ((below_regrown V dq osq).mono HB.out.size)⟩
set_option maxHeartbeats 4000000 in
theorem condText_net (a : Nat) (ha : a ≤ 3) (ip b lo hi : Nat) (hip : ip < 4294967296) (hf : faultOf ip b lo hi = 0) (w : World) (hE : EV w) : Calls Tryz.prog 37 #[.agg #[.int .i64 a, .int .i64 9, .int .u64 0, .int .u64 0, .string ByteArray.empty, .int .u32 ip, .int .i64 b, .int .i64 lo, .int .i64 hi]] w fun e w' => e = .returned (.string (bs (Lib.decDigits a ++ 32 :: (signW.getD 8 [] ++ 32 :: netText ip b lo hi)))) ∧ Below w.heap.size w w' := by
  have HI := fun X hX => itoa_any a (by omega) X hX
  have hl : (Lib.decDigits a).length ≤ 20 := nDigits_le20 a (by omega)
  have hsl : (signW.getD 8 []).length ≤ 2 := sign_len 8 (by omega)
  obtain ⟨d, hd⟩ : ∃ d : ByteArray, d = ⟨(Lib.decDigits a).toArray⟩ := ⟨_, rfl⟩
  have hds : d.size ≤ 20 := by rw [hd]; simpa [ByteArray.size] using hl
  rw [← hd] at HI
  obtain ⟨s, hs⟩ : ∃ d : ByteArray, d = bs (signW.getD 8 []) := ⟨_, rfl⟩
  have hss : s.size ≤ 2 := by rw [hs, bs_size]; exact hsl
  have hsg := fun X (hX : EV X) => hX.sign 8 (by omega)
  rw [← hs] at hsg
  have hfo := fault_ok hf
  have HT := fun X hX => text_any ip hip b lo hi (by omega) (by omega) (by omega) X hX
  rw [show textV ip b lo hi = .tuple #[.string (bs (netText ip b lo hi)), .nilIface] by unfold textV; rw [if_pos hf, hf]; rfl] at HT
  have hnl := netText_len hf hip
  obtain ⟨y, hy⟩ : ∃ y, y = bs (netText ip b lo hi) := ⟨_, rfl⟩
  have hys : y.size ≤ 100 := by rw [hy, bs_size]; exact hnl
  rw [← hy] at HT
  have HV := hide (show bs (Lib.decDigits a ++ 32 :: (signW.getD 8 [] ++ 32 :: netText ip b lo hi)) = d ++ ⟨#[32]⟩ ++ s ++ ⟨#[32]⟩ ++ y by
    rw [hd, hs, hy, show (⟨(Lib.decDigits a).toArray⟩ : ByteArray) = bs (Lib.decDigits a) from rfl, bs32, bs_append, bs_append, bs_append, bs_append]
    simp)
  clear hd hs hy hnl hf hfo
  obtain ⟨R, hR⟩ : ∃ R : ByteArray, R = bs (Lib.decDigits a ++ 32 :: (signW.getD 8 [] ++ 32 :: netText ip b lo hi)) := ⟨_, rfl⟩
  rw [← hR] at HV ⊢
  clear hR
  have HE := hide hE
  clear hE hl hsl
  have z1 : ¬ 9223372036854775807 < d.size + 1 := by omega
  have z2 : ¬ 9223372036854775807 < d.size + 1 + s.size := by omega
  have z3 : ¬ 9223372036854775807 < d.size + 1 + s.size + 1 := by omega
  have z4 : ¬ 9223372036854775807 < d.size + 1 + s.size + 1 + y.size := by omega
  go_enter Tryz.func37, Tryz.ntmps37
  go_wp2
  obtain ⟨V, hV, hB, hsz, hx⟩ := one_box w #[.int .i64 a, .int .i64 9, .int .u64 0, .int .u64 0, .string ByteArray.empty, .int .u32 ip, .int .i64 b, .int .i64 lo, .int .i64 hi] 60
  rw [← hV]
  clear hV
  have HB := hide hB
  have HEV := hide (HE.out.on hB)
  clear hB
  have g0 := cell_regrown (hx 0)
  have g1 := cell_regrown (hx 1)
  have g2 := cell_regrown (hx 2)
  have g3 := cell_regrown (hx 3)
  have g4 := cell_regrown (hx 4)
  have g5 := cell_regrown (hx 5)
  have g6 := cell_regrown (hx 6)
  have g7 := cell_regrown (hx 7)
  have g8 := cell_regrown (hx 8)
  have gs := cell_regrown (hsg V HEV.out)
  have gs0 := cell_regrown (HEV.out.sign 0 (by omega))
  have cI : ∀ d' os, Calls Tryz.prog 36 #[.int .i64 a] (grow (redrawn V d') os) fun e w'' => e = .returned (.string d) ∧ ∃ p : Regrown, w'' = grow (redrawn V p.d) p.os := fun d' os => Calls.regrown_of (HI _ (HEV.out.on (below_regrown _ _ _)).tab)
  clear hx hsg HI
  refine wp_region_quiet_below (by kernel_rfl) (by kernel_rfl) ?_
  repeat (go_big_quiet_step (first | (go_at_call 36; exact cI _ _)))
  refine wpQuiet_nil ?_
  intro _ hw'
  obtain ⟨⟨dq, osq⟩, hw''⟩ := hw'
  subst hw''
  go_wp2_with (go_at_call 49; refine (HT _ (HEV.out.on (below_regrown _ _ _)).tab).mono ?_; rintro e w' ⟨rfl, hb⟩)
  go_ret
  exact ⟨by rw [HV.out]; rfl, below_next (HB.out.trans ((below_regrown V dq osq).mono HB.out.size)) hb⟩
theorem condText_any {c : CD} (h : Shape c) (w : World) (hE : EV w) : Calls Tryz.prog 37 #[condV c] w fun e w' => e = .returned (.string (bs (joinC 32 (condW c)))) ∧ Below w.heap.size w w' := by
  cases h with
  | num a k v ha h1 h6 hv =>
    obtain ⟨j, rfl⟩ : ∃ j, k = j + 1 := ⟨k - 1, by omega⟩
    have e : joinC 32 (condW ⟨a, (j + 1 : Nat), v, 0, ByteArray.empty, noNet⟩) = Lib.decDigits a ++ 32 :: (signW.getD j [] ++ 32 :: Lib.decDigits v) := by
      rcases six h1 h6 with h | h | h | h | h | h <;> (obtain rfl : j = _ := Nat.succ.inj h; simp [condW, signOf, signW, joinC])
    rw [e]
    exact condText_num a ha j v (by omega) hv w hE
  | mask a v m ha hv hm => exact condText_mask a ha v m hv hm w hE
  | like a g ha hg => exact condText_like a ha g (glob_print hg).2 w hE
  | net a ip b lo hi ha hip hf => exact condText_net a ha ip b lo hi hip hf w hE
end Go.Proofs.YtbifjokfnahiaabGreatDoor

/- policy.Text: rules, and a policy. -/
namespace Go.Proofs.YtbifjokfnahiaabGreatDoor
open Go.RowKit Go.Sort

/-- The text of the first i conds. -/
def condsT (cs : List CD) : W8 := match cs with
  | [] => []
  | _ => 32 :: joinC 32 (condsW true cs)
theorem condsW_app : ∀ (cs : List CD) (f : Bool) (c : CD), condsW f (cs ++ [c]) = condsW f cs ++ (if f && cs.isEmpty then wIf else wAnd) :: condW c
  | [], f, c => by cases f <;> simp [condsW]
  | x :: r, f, c => by
    rw [List.cons_append, condsW, condsW, condsW_app r false c]
    simp
theorem condsW_ne {cs : List CD} (f : Bool) (h : cs ≠ []) : condsW f cs ≠ [] := by
  cases cs with
  | nil => exact absurd rfl h
  | cons c r => simp [condsW]
theorem condsT_snoc (cs : List CD) (c : CD) : condsT (cs ++ [c]) = condsT cs ++ ((if cs.isEmpty then [32, 105, 102, 32] else [32, 97, 110, 100, 32]) ++ joinC 32 (condW c)) := by
  cases cs with
  | nil =>
    simp only [List.nil_append, condsT, condsW, List.append_nil]
    rw [join_cons 32 _ _ (condW_ne c)]
    rfl
  | cons x r =>
    have e : condsT (x :: r ++ [c]) = 32 :: joinC 32 (condsW true (x :: r ++ [c])) := rfl
    rw [e, condsW_app, join_app 32 _ (by simp) _ (condsW_ne true (by simp)), join_cons 32 _ _ (condW_ne c)]
    simp [condsT, wAnd]
theorem ruleT (r : RL) : joinC 32 (ruleW r) = joinC 32 (actW r.act) ++ 32 :: (nameOf r.nr ++ condsT r.conds) := by
  unfold ruleW
  rw [join_app 32 _ (by simp) _ (actW_ne _)]
  cases h : r.conds with
  | nil => simp [condsW, condsT, joinC]
  | cons c t => rw [join_cons 32 _ _ (condsW_ne true (by simp))]; rfl
theorem act_len {a : ACT} (h : actF a = 0) : (joinC 32 (actW a)).length ≤ 30 := by
  rcases act_cases h with rfl | rfl | ⟨n, h1, h2, rfl⟩
  · decide
  · decide
  · have := nDigits_le20 n (by omega)
    simp [actW, joinC, wDeny]
    omega
theorem name_len {nr : Int} (h0 : 0 ≤ nr) (h8 : nr ≤ 8) : (nameOf nr).length ≤ 7 := by
  obtain ⟨k, rfl⟩ : ∃ k : Nat, nr = k := ⟨nr.toNat, by omega⟩
  rcases nine (show k ≤ 8 by omega) with rfl | rfl | rfl | rfl | rfl | rfl | rfl | rfl | rfl <;> decide
theorem cond_len {c : CD} (h : Shape c) : (joinC 32 (condW c)).length ≤ 130 := by
  cases h with
  | num a k v ha h1 h6 hv =>
    have := nDigits_le20 a (by omega)
    have := nDigits_le20 v hv
    rcases six h1 h6 with rfl | rfl | rfl | rfl | rfl | rfl <;> (simp [condW, signOf, signW, joinC]; omega)
  | mask a v m ha hv hm =>
    have := nDigits_le20 a (by omega)
    have := nDigits_le20 v hv
    have := nDigits_le20 m hm
    simp [condW, signOf, signW, joinC]
    omega
  | like a g ha hg =>
    have := nDigits_le20 a (by omega)
    have := (glob_print hg).2
    rw [Lib.size_eq] at this
    simp [condW, signOf, signW, joinC]
    simp at this
    omega
  | net a ip b lo hi ha hip hf =>
    have := nDigits_le20 a (by omega)
    have := netText_len hf hip
    simp [condW, signOf, signW, joinC, netW]
    omega
theorem condsT_len : ∀ (n : Nat) (cs : List CD), cs.length = n → ShapeAll cs → (condsT cs).length ≤ n * 140
  | 0, cs, h, _ => by
    rw [List.length_eq_zero_iff.1 h]
    simp [condsT]
  | n + 1, cs, h, hs => by
    have hne : cs ≠ [] := fun e => by rw [e] at h; simp at h
    obtain ⟨ys, y, rfl⟩ : ∃ ys y, cs = ys ++ [y] := ⟨cs.dropLast, cs.getLast hne, (List.dropLast_concat_getLast hne).symm⟩
    rw [condsT_snoc]
    have h1 := condsT_len n ys (by simpa using h) fun c hc => hs c (by simp [hc])
    have h2 := cond_len (hs y (by simp))
    simp only [List.length_append]
    split <;> simp <;> omega
theorem rule_len {r : RL} (h : RuleOk r) : (joinC 32 (ruleW r)).length ≤ 600 := by
  rw [ruleT]
  have h1 := act_len h.act
  have h2 := name_len h.nr0 h.nr8
  have h3 := condsT_len _ r.conds rfl h.conds
  have h4 := h.few
  simp only [List.length_append, List.length_cons]
  omega
/-- The text of the first rules. -/
def rulesT (rs : List RL) : W8 := rs.flatMap fun r => joinC 32 (ruleW r) ++ [10]
theorem rulesT_snoc (rs : List RL) (r : RL) : rulesT (rs ++ [r]) = rulesT rs ++ (joinC 32 (ruleW r) ++ [10]) := by simp [rulesT]
theorem textT (p : POL) : textP p = [101, 108, 115, 101, 32] ++ joinC 32 (actW p.els) ++ [10] ++ rulesT p.rules := by
  unfold textP rulesT
  rw [join_cons 32 _ _ (actW_ne _)]
  simp [wElse]
theorem rulesT_len : ∀ rs : List RL, (∀ r ∈ rs, RuleOk r) → (rulesT rs).length ≤ rs.length * 601
  | [], _ => by simp [rulesT]
  | r :: t, h => by
    have h1 := rule_len (h r (by simp))
    have h2 := rulesT_len t fun x hx => h x (by simp [hx])
    simp only [rulesT, List.flatMap_cons, List.length_append, List.length_cons, List.length_nil] at h2 ⊢
    omega
theorem text_len {p : POL} (h : PolOk p) : (textP p).length ≤ 7500 := by
  rw [textT]
  have h1 := act_len h.els
  have h2 := rulesT_len p.rules h.rules
  have h3 := h.few
  simp only [List.length_append, List.length_cons, List.length_nil]
  omega
end Go.Proofs.YtbifjokfnahiaabGreatDoor

/- policy.Text: the walks over rules, and over a policy. -/
namespace Go.Proofs.YtbifjokfnahiaabGreatDoor
open Go.RowKit Go.Sort

theorem conds_parts {oa : Option Addr} {cs : List CD} {w : World} (hc : IsConds oa cs w) (n : Nat) (hn : n = cs.length) : 0 < n → ∃ b off, oa = some ⟨b, off, none⟩ ∧ b < w.heap.size ∧ Hid (∀ i c, cs[i]? = some c → CondAt w b (off + i * 9) c) := fun h => by
  obtain ⟨b, off, q1, q2, q3⟩ := hc.lie (by omega)
  exact ⟨b, off, q1, q2, hide q3⟩
/-- What stands ahead of the cond at i. -/
def joinB (i : Nat) : ByteArray := if i = 0 then ⟨#[32, 105, 102, 32]⟩ else ⟨#[32, 97, 110, 100, 32]⟩

set_option maxHeartbeats 4000000 in
theorem ruleText_any (r : RL) (h : RuleOk r) (oa : Option Addr) (cap : Nat) (w : World) (hc : IsConds oa r.conds w) (hE : EV w) :
    Calls Tryz.prog 23 #[ruleV r oa cap] w fun e w' => e = .returned (.string (bs (joinC 32 (ruleW r)))) ∧ Below w.heap.size w w' := by
  obtain ⟨n, hn⟩ : ∃ n, n = r.conds.length := ⟨_, rfl⟩
  have HC := hide (conds_parts hc n hn)
  have hT := ruleT r
  obtain ⟨k, hk⟩ : ∃ k : Nat, r.nr = k := ⟨r.nr.toNat, by have := h.nr0; omega⟩
  have hk8 : k ≤ 8 := by have := h.nr8; omega
  have h4 : n ≤ 4 := by have := h.few; omega
  have hal := act_len h.act
  have hnl := name_len h.nr0 h.nr8
  have HA := fun X hX => actText_any r.act h.act X hX
  have HSH := hide h.conds
  have HL := hide (show ∀ i, i < n → ∃ c, r.conds[i]? = some c ∧ r.conds.take (i + 1) = r.conds.take i ++ [c] from fun i h => take_next (by omega))
  clear h hc
  obtain ⟨nr, cs, ⟨ak, ae⟩⟩ := r
  unfold ruleV
  unfold actV at HA
  simp only at hk hT HC HSH HL HA hn hnl ⊢
  subst hk
  rw [← hn]
  obtain ⟨R, hR⟩ : ∃ R : W8, R = joinC 32 (ruleW ⟨k, cs, ⟨ak, ae⟩⟩) := ⟨_, rfl⟩
  rw [← hR] at hT ⊢
  clear hR
  obtain ⟨at0, hat⟩ : ∃ t : W8, t = joinC 32 (actW ⟨ak, ae⟩) := ⟨_, rfl⟩
  rw [← hat] at hT HA hal
  clear hat
  obtain ⟨A, hA⟩ : ∃ t : ByteArray, t = bs at0 := ⟨_, rfl⟩
  have hAs : A.size ≤ 30 := by rw [hA, bs_size]; exact hal
  rw [← hA] at HA
  have fx := forms_index k hk8
  have fk := form_name k
  have HFO := forms_any
  obtain ⟨FA, hFA⟩ : ∃ a, a = formsArr := ⟨_, rfl⟩
  rw [← hFA] at fx HFO
  obtain ⟨FV, hFV⟩ : ∃ a, a = formV k := ⟨_, rfl⟩
  rw [← hFV] at fx fk
  obtain ⟨NM, hNM⟩ : ∃ t : ByteArray, t = bs (nameOf k) := ⟨_, rfl⟩
  have hNs : NM.size ≤ 7 := by rw [hNM, bs_size]; exact hnl
  rw [show (⟨(nameOf (k : Nat)).toArray⟩ : ByteArray) = NM from hNM.symm] at fk
  have HT := hide (show bs R = A ++ ⟨#[32]⟩ ++ NM ++ bs (condsT cs) by
    rw [hT, hA, hNM, bs32, bs_append, bs_append, bs_append]
    simp)
  have HN := hide hn
  have HE := hide hE
  obtain ⟨S0, hS0⟩ : ∃ t : ByteArray, t = A ++ ⟨#[32]⟩ ++ NM := ⟨_, rfl⟩
  have HS0 := hide hS0
  have hS0s : S0.size ≤ 40 := by rw [hS0, ByteArray.size_append, ByteArray.size_append]; have : (⟨#[32]⟩ : ByteArray).size = 1 := rfl; omega
  clear hFA hFV hNM hA hT hE hn hnl hal hS0
  have z1 : ¬ 9223372036854775807 < A.size + 1 := by omega
  have z2 : ¬ 9223372036854775807 < A.size + 1 + NM.size := by omega
  have i1 : (0 : Int) ≤ k := by omega
  have i2 : (k : Int) < 9 := by omega
  go_enter Tryz.func23, Tryz.ntmps23
  go_wp2
  obtain ⟨V, hV, hB, hsz, hx⟩ := one_box w #[.int .i64 k, .slice oa n cap, .int .i64 ak, .int .i64 ae] 56
  rw [← hV]
  clear hV
  have HEV := hide (HE.out.on hB)
  have g0 := cell_regrown (hx 0)
  have g1 := cell_regrown (hx 1)
  have g2 := cell_regrown (hx 2)
  have g3 := cell_regrown (hx 3)
  have cA : ∀ d' os, Calls Tryz.prog 22 #[.agg #[.int .i64 ak, .int .i64 ae]] (grow (redrawn V d') os) fun e w'' => e = .returned (.string A) ∧ ∃ p : Regrown, w'' = grow (redrawn V p.d) p.os := fun d' os => Calls.regrown_of (HA _ (HEV.out.on (below_regrown _ _ _)))
  have cF : ∀ d' os, Calls Tryz.prog 20 #[] (grow (redrawn V d') os) fun e w'' => e = .returned (.agg FA) ∧ ∃ p : Regrown, w'' = grow (redrawn V p.d) p.os := fun d' os => Calls.regrown_of (HFO _)
  refine wp_region_quiet_below (by kernel_rfl) (by kernel_rfl) ?_
  repeat (go_big_quiet_step (first | (go_at_call 22; exact cA _ _) | (go_at_call 20; exact cF _ _)))
  refine wpQuiet_nil ?_
  intro _ hw'
  obtain ⟨⟨dq, osq⟩, hw''⟩ := hw'
  subst hw''
  rw [← HS0.out]
  clear cA cF HA HFO fx fk g0 g1 g2 g3
  refine forget_any (fun X => Below V.heap.size V X) (below_regrown V dq osq) ?_
  intro X hX
  have k1 := keep_cell hX (hx 1)
  go_wp2
  go_loopw [19, 3, 4] (fun I S J w' => ∃ (i : Nat) (t : ByteArray), i ≤ n ∧ I = .int .i64 i ∧ S = .string t ∧ t.size ≤ 40 + i * 140 ∧ Hid (t = S0 ++ bs (condsT (cs.take i))) ∧ J = .string (joinB i) ∧ Hid (Below X.heap.size X w')) (fun I _ _ _ => n - (intOf I).toNat)
  case atStart => exact ⟨0, S0, by omega, rfl, rfl, by omega, hide (by rw [List.take_zero]; apply ByteArray.ext; simp [condsT, bs, ByteArray.data_append]), rfl, hide (Below.refl _ _)⟩
  case round =>
    obtain ⟨i, t, hi, rfl, rfl, hts, HTT, rfl, HB⟩ := hrel
    have HW := hide (below_next (below_next hB hX) HB.out)
    by_cases hlt : i < n
    · obtain ⟨c, hcs, hcat⟩ := HL.out i hlt
      obtain ⟨b, off, rfl, hbw, HA2⟩ := HC.out (by omega)
      have hA := (HA2.out i c hcs).on fun j => (bcell HW.out).1 b j hbw
      have hsh := HSH.out c (List.mem_of_getElem? hcs)
      have hcl := cond_len hsh
      have HCT := condText_any hsh wr (HE.out.on HW.out)
      obtain ⟨q, hq⟩ : ∃ q : ByteArray, q = bs (joinC 32 (condW c)) := ⟨_, rfl⟩
      have hqs : q.size ≤ 130 := by rw [hq, bs_size]; exact hcl
      rw [← hq] at HCT
      obtain ⟨J, hJ⟩ : ∃ J, J = joinB i := ⟨_, rfl⟩
      have hJs : J.size ≤ 5 := by rw [hJ]; unfold joinB; split <;> decide
      have HS := hide (show t ++ (J ++ q) = S0 ++ bs (condsT (cs.take (i + 1))) by
        rw [hcat, condsT_snoc, HTT.out, hJ, hq, ← bs_append, ← bs_append, ByteArray.append_assoc]
        congr 2
        congr 1
        have hl : (cs.take i).isEmpty = decide (i = 0) := by
          rw [Bool.eq_iff_iff]
          simp only [List.isEmpty_iff, decide_eq_true_eq]
          have hn := HN.out
          constructor
          · intro h
            have h2 : (cs.take i).length = 0 := by rw [h]; rfl
            rw [List.length_take] at h2
            omega
          · rintro rfl
            simp
        rw [hl]
        unfold joinB
        by_cases e : i = 0
        · simp [e]; rfl
        · simp [e]; rfl)
      rw [← hJ]
      clear hq hJ hcs hcat hcl hsh HTT
      obtain ⟨a0, a1, a2, a3, a4, a5, a6, a7, a8, _⟩ := hA
      obtain ⟨arg, op, v, m, gl, ⟨ip, bb, lo, hh⟩⟩ := c
      unfold condV at HCT
      simp only at a0 a1 a2 a3 a4 a5 a6 a7 a8 HCT
      have g1 := keep_cell HB.out k1
      have z3 : ¬ 9223372036854775807 < J.size + q.size := by omega
      have z4 : ¬ 9223372036854775807 < t.size + (J.size + q.size) := by omega
      go_wp2_with (go_at_call 37; refine HCT.mono ?_; rintro e w1 ⟨rfl, hb1⟩)
      go_round
      case rel => exact ⟨i + 1, _, by omega, by go_num, rfl, by rw [ByteArray.size_append, ByteArray.size_append]; omega, HS, by unfold joinB; rw [if_neg (by omega)], hide (below_next HB.out hb1)⟩
      case measure => simp [intOf]; omega
    · obtain rfl : i = n := by omega
      go_wp2
      go_ret
      refine ⟨?_, HW.out⟩
      rw [HT.out, ← HS0.out]
      have := HTT.out
      rw [List.take_of_length_le (by rw [HN.out]; exact Nat.le_refl _)] at this
      rw [← this]
      rfl

set_option maxHeartbeats 4000000 in
theorem write_any (p : POL) (h : PolOk p) (oa : Option Addr) (cap : Nat) (w : World) (hp : IsPol oa cap p w) (hE : EV w) :
    Calls Tryz.prog 15 #[polV p oa cap] w fun e w' => e = .returned (.string (bs (textP p))) ∧ Below w.heap.size w w' := by
  obtain ⟨n, hn⟩ : ∃ n, n = p.rules.length := ⟨_, rfl⟩
  have HC := hide (pol_parts hp n hn)
  have hT := textT p
  have h12 : n ≤ 12 := by have := h.few; omega
  have hal := act_len h.els
  have HA := fun X hX => actText_any p.els h.els X hX
  have HRU := hide h.rules
  have HL := hide (show ∀ i, i < n → ∃ c, p.rules[i]? = some c ∧ p.rules.take (i + 1) = p.rules.take i ++ [c] from fun i h => take_next (by omega))
  clear h hp
  obtain ⟨rs, ⟨ak, ae⟩⟩ := p
  unfold polV
  unfold actV at HA
  simp only at hT HC HRU HL HA hn ⊢
  rw [← hn]
  obtain ⟨R, hR⟩ : ∃ R : W8, R = textP ⟨rs, ⟨ak, ae⟩⟩ := ⟨_, rfl⟩
  rw [← hR] at hT ⊢
  clear hR
  obtain ⟨at0, hat⟩ : ∃ t : W8, t = joinC 32 (actW ⟨ak, ae⟩) := ⟨_, rfl⟩
  rw [← hat] at hT HA hal
  clear hat
  obtain ⟨A, hA⟩ : ∃ t : ByteArray, t = bs at0 := ⟨_, rfl⟩
  have hAs : A.size ≤ 30 := by rw [hA, bs_size]; exact hal
  rw [← hA] at HA
  have HT := hide (show bs R = ⟨#[101, 108, 115, 101, 32]⟩ ++ A ++ ⟨#[10]⟩ ++ bs (rulesT rs) by
    rw [hT, hA, show (⟨#[101, 108, 115, 101, 32]⟩ : ByteArray) = bs [101, 108, 115, 101, 32] from rfl, show (⟨#[10]⟩ : ByteArray) = bs [10] from rfl, bs_append, bs_append, bs_append])
  have HN := hide hn
  have HE := hide hE
  obtain ⟨S0, hS0⟩ : ∃ t : ByteArray, t = ⟨#[101, 108, 115, 101, 32]⟩ ++ A ++ ⟨#[10]⟩ := ⟨_, rfl⟩
  have HS0 := hide hS0
  have hS0s : S0.size ≤ 40 := by rw [hS0, ByteArray.size_append, ByteArray.size_append]; have : (⟨#[101, 108, 115, 101, 32]⟩ : ByteArray).size = 5 := rfl; have : (⟨#[10]⟩ : ByteArray).size = 1 := rfl; omega
  clear hA hT hE hn hal hS0
  have z1 : ¬ 9223372036854775807 < 5 + A.size := by omega
  have z2 : ¬ 9223372036854775807 < 5 + A.size + 1 := by omega
  go_enter Tryz.func15, Tryz.ntmps15
  obtain ⟨V, hV, hB, hsz, hx⟩ := one_box w #[.slice oa n cap, .int .i64 ak, .int .i64 ae] 26
  go_wp2_with (go_at_call 22; rw [← hV]; clear hV; refine (HA _ (HE.out.on hB)).mono ?_; rintro e X ⟨rfl, hX⟩; have k0 := keep_cell hX (hx 0); refine Hid.out ?_)
  refine hide ?_
  go_wp2
  rw [← HS0.out]
  go_loopw [13, 3] (fun I S w' => ∃ (i : Nat) (t : ByteArray), i ≤ n ∧ I = .int .i64 i ∧ S = .string t ∧ t.size ≤ 40 + i * 601 ∧ Hid (t = S0 ++ bs (rulesT (rs.take i))) ∧ Hid (Below X.heap.size X w')) (fun I _ _ => n - (intOf I).toNat)
  case atStart => exact ⟨0, S0, by omega, rfl, rfl, by omega, hide (by rw [List.take_zero]; apply ByteArray.ext; simp [rulesT, bs, ByteArray.data_append]), hide (Below.refl _ _)⟩
  case round =>
    obtain ⟨i, t, hi, rfl, rfl, hts, HTT, HB⟩ := hrel
    have HW := hide (below_next (below_next hB hX) HB.out)
    by_cases hlt : i < n
    · obtain ⟨c, hcs, hcat⟩ := HL.out i hlt
      obtain ⟨b, off, rfl, hbw, HA2⟩ := HC.out (by omega)
      obtain ⟨ca, cc, hR0⟩ := HA2.out i c hcs
      have hRA := hR0.on hbw HW.out
      clear hR0
      have hok := HRU.out c (List.mem_of_getElem? hcs)
      have hcl := rule_len hok
      have HCT := ruleText_any c hok ca cc wr hRA.conds (HE.out.on HW.out)
      obtain ⟨q, hq⟩ : ∃ q : ByteArray, q = bs (joinC 32 (ruleW c)) := ⟨_, rfl⟩
      have hqs : q.size ≤ 600 := by rw [hq, bs_size]; exact hcl
      rw [← hq] at HCT
      have HS := hide (show t ++ (q ++ ⟨#[10]⟩) = S0 ++ bs (rulesT (rs.take (i + 1))) by
        rw [hcat, rulesT_snoc, HTT.out, hq, ← bs_append, ← bs_append, ByteArray.append_assoc]
        rfl)
      clear hq hcs hcat hcl hok HTT
      obtain ⟨a0, a1, a2, a3, _, _, _, _⟩ := hRA
      obtain ⟨nr, cs, ⟨rk, re⟩⟩ := c
      unfold ruleV at HCT
      simp only at a0 a1 a2 a3 HCT
      have g0 := keep_cell HB.out k0
      have z3 : ¬ 9223372036854775807 < q.size + 1 := by omega
      have z4 : ¬ 9223372036854775807 < t.size + (q.size + 1) := by omega
      go_wp2_with (go_at_call 23; refine HCT.mono ?_; rintro e w1 ⟨rfl, hb1⟩)
      go_round
      case rel => exact ⟨i + 1, _, by omega, by go_num, rfl, by rw [ByteArray.size_append, ByteArray.size_append]; have : (⟨#[10]⟩ : ByteArray).size = 1 := rfl; omega, HS, hide (below_next HB.out hb1)⟩
      case measure => simp [intOf]; omega
    · obtain rfl : i = n := by omega
      go_wp2
      go_ret
      refine ⟨?_, HW.out⟩
      rw [HT.out, ← HS0.out]
      have := HTT.out
      rw [List.take_of_length_le (by rw [HN.out]; exact Nat.le_refl _)] at this
      rw [← this]
      rfl

/-- What Text hands back. -/
def ptextV (p : POL) : Value := .tuple #[.string (if polF p = 0 then bs (textP p) else ⟨#[]⟩), errV (polF p)]
theorem ptext_any (p : POL) (oa : Option Addr) (cap : Nat) (w : World) (hp : IsPol oa cap p w) (hE : EV w) :
    Calls Tryz.prog 7 #[polV p oa cap] w fun e w' => e = .returned (ptextV p) ∧ Below w.heap.size w w' := by
  have HC := fun w' h => pcheck_any p oa cap w' h
  obtain ⟨V, hV, hB, hsz, hx⟩ := one_box w #[.slice oa p.rules.length cap, .int .i64 p.els.kind, .int .i64 p.els.errno] 26
  have HP := hide (hp.on hB)
  have HE := hide (hE.on hB)
  by_cases h : polF p = 0
  · have HV := hide (show ptextV p = .tuple #[.string (bs (textP p)), .nilIface] by unfold ptextV; rw [if_pos h, h]; rfl)
    have HW := fun w' h1 h2 => write_any p (pol_ok h hp.ok) oa cap w' h1 h2
    obtain ⟨T, hT⟩ : ∃ t : ByteArray, t = bs (textP p) := ⟨_, rfl⟩
    rw [← hT] at HV HW
    rw [h, errV_zero] at HC
    clear hT h hp hE
    unfold polV at *
    go_enter Tryz.func7, Tryz.ntmps7
    go_wp2_with (first
      | (go_at_call 6; rw [← hV]; clear hV; refine (HC _ HP.out).mono ?_; rintro e X ⟨rfl, hX⟩; have k0 := keep_cell hX (hx 0); have k1 := keep_cell hX (hx 1); have k2 := keep_cell hX (hx 2); have HX := hide hX; clear hX)
      | (go_at_call 15; refine (HW _ (HP.out.on HX.out) (HE.out.on HX.out)).mono ?_; rintro e Y ⟨rfl, hY⟩))
    go_ret2
    exact ⟨by rw [HV.out]; rfl, below_next (below_next hB HX.out) hY⟩
  · have HV := hide (show ptextV p = .tuple #[.string ⟨#[]⟩, .iface 61 (.int .i64 (polF p : Nat))] by unfold ptextV; rw [if_neg h, errV_pos h])
    rw [errV_pos h] at HC
    clear h hp hE
    unfold polV at *
    go_enter Tryz.func7, Tryz.ntmps7
    go_wp2_with (go_at_call 6; rw [← hV]; clear hV; refine (HC _ HP.out).mono ?_; rintro e X ⟨rfl, hX⟩)
    go_ret2
    exact ⟨by rw [HV.out]; rfl, below_next hB hX⟩
end Go.Proofs.YtbifjokfnahiaabGreatDoor
