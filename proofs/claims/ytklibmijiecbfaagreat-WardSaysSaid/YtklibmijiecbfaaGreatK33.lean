/- snap. -/
import Derived.Test.YtklibmijiecbfaaGreatK29
namespace Go.Proofs.YtklibmijiecbfaaGreat
open Go.RowKit Mm

set_option maxHeartbeats 2000000 in
set_option maxRecDepth 20000 in
theorem snap_any {g gm : Nat} {P : PV} {s : WS} {lv : Value} {W : World} (n : Nat) (hn : n < 3) (hi : Inv P.p s) (hph : (s.T n).phase = 2) (h : WX g gm P s lv W) (hlog : s.log.length ≤ 1000000) :
  Calls Tryz.prog 28 #[.pointer (some ⟨g, 0, none⟩), .int .i64 n] W (Goes g gm P (snapS n s) lv W) := by
 have j1 : (0 : Int) ≤ n := by omega
 have j2 : (n : Int) < 3 := by omega
 have ht := hi.thr n hn
 have hnr := ht.trc (by omega) (by omega)
 obtain ⟨hseen, hrd⟩ := ht.snap hph
 have hbyt := hi.mem.fine.bytes
 have HP := pts_some (s.T n).call hnr W
 unfold klV klC at HP
 have x1 := h.th n 1 hn (by omega)
 have x2 := h.th n 2 hn (by omega)
 have x3 := h.th n 3 hn (by omega)
 have x4 := h.th n 4 hn (by omega)
 have x5 := h.th n 5 hn (by omega)
 have x6 := h.th n 6 hn (by omega)
 rw [(cellT_call _).1] at x1
 rw [(cellT_call _).2.1] at x2
 rw [(cellT_call _).2.2.1] at x3
 rw [(cellT_call _).2.2.2.1] at x4
 rw [(cellT_call _).2.2.2.2.1] at x5
 rw [(cellT_call _).2.2.2.2.2] at x6
 obtain ⟨ka, hka⟩ : ∃ k, k = kindsA (s.T n).call.nr := ⟨_, rfl⟩
 have hka4 : ka.size = 4 := by rw [hka]; rfl
 have hka1 : ka.all (·.oneCell') = true := by rw [hka]; exact kindsA_one _
 have HKA := hide hka
 rw [← hka] at HP
 obtain ⟨pts, hpts⟩ : ∃ l, l = ptsOf (s.T n).call.nr := ⟨_, rfl⟩
 rw [← hpts] at HP hseen
 obtain ⟨L, hL⟩ : ∃ m, m = pts.length := ⟨_, rfl⟩
 rw [← hL] at HP hseen
 have HH := hide h
 have HT := hide ht
 have HI := hide hi
 have HRD := hide hrd
 clear h ht hi hrd hka
 go_enter Tryz.func28, Tryz.ntmps28
 go_wp2_with fail
 refine HP.mono ?_
 rintro e Y ⟨⟨oa, cap, rfl, hcap, hcap2, hints⟩, hY⟩
 have HS := hide (SX.of ka #[.int .i64 0, .int .i64 0, .int .i64 0, .int .i64 0] HH.out hints hY)
 obtain ⟨X, hX⟩ : ∃ X, X = (Y.alloc (.cells #[.int .i64 0, .int .i64 0, .int .i64 0, .int .i64 0] 126)).setRow Y.heap.size ka := ⟨_, rfl⟩
 rw [← hX] at HS
 obtain ⟨r6, hr6⟩ : ∃ r, r = Y.heap.size := ⟨_, rfl⟩
 obtain ⟨se, hse⟩ : ∃ x, x = (s.T n).seen := ⟨_, rfl⟩
 obtain ⟨at_, hat⟩ : ∃ x, x = ptAt (s.T n) := ⟨_, rfl⟩
 obtain ⟨ar, har⟩ : ∃ x, x = (s.T n).args at_ := ⟨_, rfl⟩
 obtain ⟨rd, hrdd⟩ : ∃ x, x = (s.T n).read := ⟨_, rfl⟩
 obtain ⟨q, hq⟩ : ∃ x, x = bs rd := ⟨_, rfl⟩
 rw [← hse] at hseen
 have hpt : pts[se]? = some at_ := by
  rw [hat, hpts, hse]
  unfold ptAt
  rw [List.getD_eq_getElem?_getD, List.getElem?_eq_getElem (by rw [← hse, ← hpts, ← hL]; exact hseen)]
  rfl
 have hmem := List.mem_of_getElem? hpt
 rw [hpts] at hmem
 obtain ⟨_, hat4, hkind⟩ := pts_of hmem
 obtain ⟨b, off, rfl, hbw, hbl, hel⟩ := HS.out.ints.lie (by omega)
 have y0 := hel se at_ hpt
 have y1 : X.cell? ⟨g, 4 + n * 29 + 15, none⟩ = some (.int .i64 se) := by rw [hse]; exact HS.out.ward.th n 15 hn (by omega)
 have y2 := HS.out.ward.ptr
 have y3 : X.cell? ⟨g, 4 + n * 29 + 7 + at_, none⟩ = some (.int .u64 ar) := by rw [Nat.add_assoc (4 + n * 29), HS.out.ward.th n (7 + at_) hn (by omega), cellT_arg _ _ hat4, har]
 have y4 : X.cell? ⟨g, 4 + n * 29 + 16, none⟩ = some (.string q) := by rw [hq, hrdd]; exact HS.out.ward.th n 16 hn (by omega)
 have i1 : (0 : Int) ≤ se := by omega
 have i2 : (se : Int) < L := by omega
 have i3 : (0 : Int) ≤ at_ := by omega
 have i4 : (at_ : Int) < 4 := by omega
 have HEQ := hide (And.intro hpts (And.intro hL (And.intro hse (And.intro hat (And.intro har (And.intro hrdd hq))))))
 clear HP x1 x2 x3 x4 x5 x6 hel hints hpts hL hse hat har hrdd hq hpt hmem
 go_wp2_with (refine wpList_store_row rfl 126 _ _ rfl Y.heap.size ka rfl rfl 126 _ (heap_alloc_new Y _) (by rw [hka4]; exact size_kinds) (by rw [hka4]; rfl) hka1 ?_; rw [← hX]; clear hX)
 have HM := hide HS.out.ward.mem
 have hwr : IntKind.wrap .u64 ((ar : Int) + IntKind.wrap .u64 (q.size : Int)) = ((addrI ar rd.length : Nat) : Int) := by
  rw [HEQ.out.2.2.2.2.2.2, bs_size]
  unfold addrI
  have hl : rd.length ≤ 40 := by
   have := HRD.out
   unfold readOk at this
   rw [← HEQ.out.2.2.2.2.2.1] at this
   by_cases h3 : kindAt (s.T n).call.nr (ptAt (s.T n)) = 3
   ·
    have := this.1 h3; omega
   ·
    exact (this.2 h3).1
  rw [IntKind.wrap_u64, IntKind.wrap_u64]
  omega
 obtain ⟨pk, hpk⟩ : ∃ x, x = peek s.mem (addrI ar rd.length) := ⟨_, rfl⟩
 have HB := fun m => byte_isM (W := X.drewN m) HM.out (addrI ar rd.length) (Nat.mod_lt _ (by decide))
 rw [← hpk] at HB
 obtain ⟨ai, hai⟩ : ∃ x : Nat, x = addrI ar rd.length := ⟨_, rfl⟩
 rw [← hai] at HB hwr hpk
 have HAI := hide (And.intro hai hpk)
 clear hai hpk
 have HSP := hide (show snapS n s = pk.elim (endS n 2 14 zeroVS s) (fun b => snapL n (rd ++ [UInt8.ofNat b]) s) by
  unfold snapS
  rw [HAI.out.2, HAI.out.1, HEQ.out.2.2.2.2.1, HEQ.out.2.2.2.1, HEQ.out.2.2.2.2.2.1]
  unfold addrI
  cases peek s.mem (((s.T n).args (ptAt (s.T n)) + (s.T n).read.length) % 18446744073709551616) <;> rfl)
 obtain ⟨r6, hr6⟩ : ∃ r, r = Y.heap.size := ⟨_, rfl⟩
 rw [← hr6] at HS
 rw [← hr6]
 clear hr6
 cases pk with
 | none => as_aux_lemma =>
  unfold byteV at HB
  simp only [Option.elim] at HB HSP
  go_quiet ((go_at_call 53; exact Calls.quiet_of_same (HB _)))
  obtain ⟨Z, hZ⟩ : ∃ Z, Z = X.drewN nq := ⟨_, rfl⟩
  have HZ := hide (HS.out.on (by rw [hZ]; exact below_drewN (Below.refl _ _) _) : SX g gm P s lv _ pts ka r6 W Z)
  rw [← hZ]
  clear hZ HB HS y0 y1 y2 y3 y4
  have HE := fail_any n hn 5 HZ.out.ward hlog
  go_wp2_with fail
  refine HE.mono ?_
  rintro e w' hG
  obtain ⟨rfl, h1⟩ := hG
  go_wp2
  go_end0
  rw [HSP.out]
  exact Goes.from HZ.out.fr ⟨rfl, h1⟩
 | some bt =>
  unfold byteV at HB
  simp only [Option.elim] at HB HSP
  go_quiet ((go_at_call 53; exact Calls.quiet_of_same (HB _)))
  obtain ⟨Z, hZ⟩ : ∃ Z, Z = X.drewN nq := ⟨_, rfl⟩
  have HZ := hide (HS.out.on (by rw [hZ]; exact below_drewN (Below.refl _ _) _) : SX g gm P s lv _ pts ka r6 W Z)
  rw [← hZ]
  have z4 : Z.drew.cell? ⟨g, 4 + n * 29 + 16, none⟩ = some (.string q) := by rw [hZ]; exact y4
  have f4 : Z.drew.frozen? ⟨g, 4 + n * 29 + 16, none⟩ = false := HZ.out.ward.fro _
  have z5 := keep_cell (box_below Z.drew (.cells #[.int .u8 (bt : Nat)] 5)) z4
  have f5 : (Z.alloc (.cells #[.int .u8 (bt : Nat)] 5)).drew.frozen? ⟨g, 4 + n * 29 + 16, none⟩ = false := (HZ.out.ward.on (box_below Z (.cells #[.int .u8 (bt : Nat)] 5))).fro _
  replace z5 : (Z.alloc (.cells #[.int .u8 (bt : Nat)] 5)).drew.cell? _ = _ := z5
  have hb256 : bt < 256 := by
   have h1 := HAI.out.2
   unfold peek at h1
   split at h1
   ·
    rw [Option.some.inj h1]; exact hbyt _
   ·
    cases h1
  have hcv := conv_one (Z.alloc (.cells #[.int .u8 (bt : Nat)] 5)).drew Z.heap.size bt hb256 (cell_of_row _ _ 0 _ _ _ (heap_alloc_new Z _))
  obtain ⟨cb, hcb⟩ : ∃ c, c = bs [UInt8.ofNat bt] := ⟨_, rfl⟩
  rw [← hcb] at hcv
  have hcat : ¬ 9223372036854775807 < q.size + cb.size := by
   rw [hcb, bs_size, HEQ.out.2.2.2.2.2.2, bs_size]
   simp only [List.length_singleton]
   have := HRD.out
   unfold readOk at this
   rw [← HEQ.out.2.2.2.2.2.1] at this
   by_cases h3 : kindAt (s.T n).call.nr (ptAt (s.T n)) = 3
   ·
    have := this.1 h3; omega
   ·
    have := (this.2 h3).1; omega
  have HQQ := hide (show bs (rd ++ [UInt8.ofNat bt]) = q ++ cb by rw [hcb, HEQ.out.2.2.2.2.2.2, bs_append])
  have HW6 := hide ((HZ.out.on (box_below Z (.cells #[.int .u8 (bt : Nat)] 5))).fr' HH.out (((HZ.out.ward.on (box_below Z (.cells #[.int .u8 (bt : Nat)] 5))).on (Below.refl _ _).drew).setT n 16 hn (by omega) (.string (q ++ cb)) { s.T n with read := rd ++ [UInt8.ofNat bt] } (fun k hk => by rw [cellT_read' _ _ k, HQQ.out])) ((Fr.of lv (Below.refl _ _).drew).trans (Fr.set lv _ _ _)))
  have HCB := hide hcb
  clear hcb
  clear hZ HB HS y0 y1 y2 y3 y4 HM
  go_wp2_with fail
  go_cut [8] (fun S wc => S = .int .u8 bt ∧ Hid (WX g gm P (s.put n { s.T n with read := rd ++ [UInt8.ofNat bt] }) lv wc ∧ IsInts W.heap.size (some ⟨b, off, none⟩) pts wc ∧ wc.heap[r6]? = some (.cells ka 126 (0, 0)) ∧ Fr g gm lv lv W wc))
  case first => as_aux_lemma =>
   refine wp_region_any (by kernel_rfl) ?_
   change wpAny _ _ _ _ _ _ _ (World.drew _)
   refine Gl.wpAny_takeOf 0 (some 58) (Value.pointer (some ⟨g, 4 + n * 29, none⟩)) rfl rfl (by kernel_rfl) (by kernel_rfl) (by kernel_rfl) (fun _ _ _ h => h) (Or.inl ⟨by rfl, ?_⟩) ?_
   ·
    intro wx
    go_simp
   try simp only [Act.put, LT1, LT2, LT3]
   refine Gl.wpAny_takeOf 1 (some 59) (Value.pointer (some ⟨g, 4 + n * 29, none⟩)) rfl rfl (by kernel_rfl) (by kernel_rfl) (by kernel_rfl) (fun _ _ _ h => h) (Or.inl ⟨by rfl, ?_⟩) ?_
   ·
    intro wx
    go_simp
   try simp only [Act.put, LT1, LT2, LT3]
   refine Gl.wpAny_takeOf 2 (some 60) (Value.pointer (some ⟨g, 4 + n * 29 + 16, none⟩)) rfl rfl (by kernel_rfl) (by kernel_rfl) (by kernel_rfl) (fun _ _ _ h => h) (Or.inl ⟨by rfl, ?_⟩) ?_
   ·
    intro wx
    go_simp
   try simp only [Act.put, LT1, LT2, LT3]
   refine Gl.wpAny_takeOf 4 (some 62) (.int .u8 bt) rfl rfl (by kernel_rfl) (by kernel_rfl) (by kernel_rfl) (fun _ _ _ h => h) (Or.inl ⟨by rfl, ?_⟩) ?_
   ·
    intro wx
    go_simp
   try simp only [Act.put, LT1, LT2, LT3]
   refine wpAny_two (i := 3) (j := 5) (by kernel_rfl) rfl rfl rfl rfl (fun K hK => ?_) (fun K hK => ?_)
   ·
    go_simp
    refine hK _ _ ?_
    clear hK K
    try simp only [Act.put, LT1, LT2, LT3]
    refine Gl.wpAny_only (i := 5) (by kernel_rfl) rfl rfl (fun K hK => ?_)
    go_simp
    refine hK _ _ ?_
    clear hK K
    try simp only [Act.put, LT1, LT2, LT3]
    refine Gl.wpAny_only (i := 6) (by kernel_rfl) rfl rfl (fun K hK => ?_)
    go_simp
    refine hK _ _ ?_
    clear hK K
    try simp only [Act.put, LT1, LT2, LT3]
    refine Gl.wpAny_only (i := 7) (by kernel_rfl) rfl rfl (fun K hK => ?_)
    go_simp
    refine hK _ _ ?_
    clear hK K
    try simp only [Act.put, LT1, LT2, LT3]
    refine Gl.wpAny_takeOf 8 (some 66) (Value.pointer (some ⟨g, 4 + n * 29, none⟩)) rfl rfl (by kernel_rfl) (by kernel_rfl) (by kernel_rfl) (fun _ _ _ h => h) (Or.inl ⟨by rfl, ?_⟩) ?_
    ·
     intro wx
     go_simp
    try simp only [Act.put, LT1, LT2, LT3]
    refine Gl.wpAny_takeOf 9 (some 67) (Value.pointer (some ⟨g, 4 + n * 29 + 16, none⟩)) rfl rfl (by kernel_rfl) (by kernel_rfl) (by kernel_rfl) (fun _ _ _ h => h) (Or.inl ⟨by rfl, ?_⟩) ?_
    ·
     intro wx
     go_simp
    try simp only [Act.put, LT1, LT2, LT3]
    refine Gl.wpAny_only (i := 10) (by kernel_rfl) rfl rfl (fun K hK => ?_)
    go_simp
    refine hK _ _ ?_
    clear hK K
    try simp only [Act.put, LT1, LT2, LT3]
    refine wpAny_done (by kernel_rfl) ?_ _
    go_wp2_with fail
    go_meet
    case rel => exact ⟨rfl, HW6⟩
   ·
    go_simp
    refine hK _ _ ?_
    clear hK K
    try simp only [Act.put, LT1, LT2, LT3]
    refine wpAny_two (i := 3) (j := 6) (by kernel_rfl) rfl rfl rfl rfl (fun K hK => ?_) (fun K hK => ?_)
    ·
     go_simp
     refine hK _ _ ?_
     clear hK K
     try simp only [Act.put, LT1, LT2, LT3]
     refine Gl.wpAny_only (i := 6) (by kernel_rfl) rfl rfl (fun K hK => ?_)
     go_simp
     refine hK _ _ ?_
     clear hK K
     try simp only [Act.put, LT1, LT2, LT3]
     refine Gl.wpAny_only (i := 7) (by kernel_rfl) rfl rfl (fun K hK => ?_)
     go_simp
     refine hK _ _ ?_
     clear hK K
     try simp only [Act.put, LT1, LT2, LT3]
     refine Gl.wpAny_takeOf 8 (some 66) (Value.pointer (some ⟨g, 4 + n * 29, none⟩)) rfl rfl (by kernel_rfl) (by kernel_rfl) (by kernel_rfl) (fun _ _ _ h => h) (Or.inl ⟨by rfl, ?_⟩) ?_
     ·
      intro wx
      go_simp
     try simp only [Act.put, LT1, LT2, LT3]
     refine Gl.wpAny_takeOf 9 (some 67) (Value.pointer (some ⟨g, 4 + n * 29 + 16, none⟩)) rfl rfl (by kernel_rfl) (by kernel_rfl) (by kernel_rfl) (fun _ _ _ h => h) (Or.inl ⟨by rfl, ?_⟩) ?_
     ·
      intro wx
      go_simp
     try simp only [Act.put, LT1, LT2, LT3]
     refine Gl.wpAny_only (i := 10) (by kernel_rfl) rfl rfl (fun K hK => ?_)
     go_simp
     refine hK _ _ ?_
     clear hK K
     try simp only [Act.put, LT1, LT2, LT3]
     refine wpAny_done (by kernel_rfl) ?_ _
     go_wp2_with fail
     go_meet
     case rel => exact ⟨rfl, HW6⟩
    ·
     go_simp
     refine hK _ _ ?_
     clear hK K
     try simp only [Act.put, LT1, LT2, LT3]
     refine Gl.wpAny_only (i := 3) (by kernel_rfl) rfl rfl (fun K hK => ?_)
     go_simp
     refine hK _ _ ?_
     clear hK K
     try simp only [Act.put, LT1, LT2, LT3]
     refine Gl.wpAny_only (i := 7) (by kernel_rfl) rfl rfl (fun K hK => ?_)
     go_simp
     refine hK _ _ ?_
     clear hK K
     try simp only [Act.put, LT1, LT2, LT3]
     refine Gl.wpAny_takeOf 8 (some 66) (Value.pointer (some ⟨g, 4 + n * 29, none⟩)) rfl rfl (by kernel_rfl) (by kernel_rfl) (by kernel_rfl) (fun _ _ _ h => h) (Or.inl ⟨by rfl, ?_⟩) ?_
     ·
      intro wx
      go_simp
     try simp only [Act.put, LT1, LT2, LT3]
     refine Gl.wpAny_takeOf 9 (some 67) (Value.pointer (some ⟨g, 4 + n * 29 + 16, none⟩)) rfl rfl (by kernel_rfl) (by kernel_rfl) (by kernel_rfl) (fun _ _ _ h => h) (Or.inl ⟨by rfl, ?_⟩) ?_
     ·
      intro wx
      go_simp
     try simp only [Act.put, LT1, LT2, LT3]
     refine Gl.wpAny_only (i := 10) (by kernel_rfl) rfl rfl (fun K hK => ?_)
     go_simp
     refine hK _ _ ?_
     clear hK K
     try simp only [Act.put, LT1, LT2, LT3]
     refine wpAny_done (by kernel_rfl) ?_ _
     go_wp2_with fail
     go_meet
     case rel => exact ⟨rfl, HW6⟩

  case rest => as_aux_lemma =>
   obtain ⟨rfl, HC⟩ := hcut
   clear z4 z5 f4 f5 hcv hcat HW6 HZ
   obtain ⟨l1, hl1⟩ : ∃ l, l = rd ++ [UInt8.ofNat bt] := ⟨_, rfl⟩
   rw [← hl1] at HC HSP
   have hlen : l1.length ≤ 9000 := by
    rw [hl1, List.length_append, List.length_singleton]
    have := HRD.out
    unfold readOk at this
    rw [← HEQ.out.2.2.2.2.2.1] at this
    by_cases h3 : kindAt (s.T n).call.nr (ptAt (s.T n)) = 3
    ·
     have := this.1 h3; omega
    ·
     have := (this.2 h3).1; omega
   obtain ⟨k, hk⟩ : ∃ k, k = kindAt (s.T n).call.nr at_ := ⟨_, rfl⟩
   rw [← hk] at hkind
   have y0 : wc.cell? ⟨r6, at_, none⟩ = some (.int .i64 (k : Nat)) := by rw [cell_of_row _ _ _ _ _ _ HC.out.2.2.1, HKA.out, hk]; exact kindsA_at _ _ hat4
   obtain ⟨q1, hq1⟩ : ∃ q, q = bs l1 := ⟨_, rfl⟩
   have y1 : wc.cell? ⟨g, 4 + n * 29 + 16, none⟩ = some (.string q1) := by rw [HC.out.1.th n 16 hn (by omega), T_put, hq1]; rfl
   have HWH := fun X => isWhole_any k l1 hlen X
   have HVO := fun X => valueOf_any k hkind l1 hlen X
   rw [← hq1] at HWH HVO
   have HSL := hide (show snapS n s = if wholeB k l1 = true then (match valOf k l1 with
    | none => endS n 2 (valErr k : Nat) zeroVS s
    | some v => s.put n { s.T n with vals := updF (s.T n).vals at_ v, read := [], seen := se + 1, phase := if se + 1 = L then 3 else 2 }) else s.put n { s.T n with read := l1 } by
     rw [HSP.out]
     unfold snapL
     simp only
     rw [← HEQ.out.2.2.2.1, ← hk, ← HEQ.out.2.2.1, ← HEQ.out.1, ← HEQ.out.2.1]
     rfl)
   obtain ⟨wb, hwb⟩ : ∃ b, b = wholeB k l1 := ⟨_, rfl⟩
   rw [← hwb] at HSL
   simp only [← hwb] at HWH
   have HK := hide hk
   have HQ1 := hide hq1
   clear hl1 hq1 hk hwb HSP hlen
   cases wb with
   | false => as_aux_lemma =>
    rw [if_neg Bool.false_ne_true] at HSL
    go_wp2_with fail
    go_quiet ((go_at_call 55; exact Calls.quiet_of_same (HWH _)))
    go_wp2
    go_end0
    rw [HSL.out]
    exact ⟨rfl, lv, HC.out.1.on (below_drewN (Below.refl _ _) _), HC.out.2.2.2.trans (Fr.of lv (below_drewN (Below.refl _ _) _))⟩
   | true =>
    rw [if_pos rfl] at HSL
    go_wp2_with fail
    go_quiet ((go_at_call 55; exact Calls.quiet_of_same (HWH _)))
    obtain ⟨Z, hZ⟩ : ∃ Z, Z = wc.drewN nq := ⟨_, rfl⟩
    have HD := hide (show Below wc.heap.size wc Z by rw [hZ]; exact below_drewN (Below.refl _ _) _)
    replace y0 := keep_cell HD.out y0
    replace y1 := keep_cell HD.out y1
    rw [← hZ]
    obtain ⟨⟨⟨path, ip, port⟩, f⟩, hvr⟩ : ∃ v, v = valR k l1 := ⟨_, rfl⟩
    simp only [← hvr] at HVO
    unfold vlC at HVO
    simp only at HVO
    obtain ⟨er, her⟩ : ∃ e, e = errV f := ⟨_, rfl⟩
    simp only [← her] at HVO
    have HER := hide her
    have HVR := hide hvr
    have hgZ : g ≠ Z.heap.size := Nat.ne_of_lt (HC.out.1.on HD.out).glt
    have hrZ : r6 ≠ Z.heap.size := Nat.ne_of_lt (Nat.lt_of_lt_of_le (Array.getElem?_eq_some_iff.1 HC.out.2.2.1).1 HD.out.size)
    have zb : (Z.alloc (.cells #[.string ⟨#[]⟩, .int .u32 0, .int .i64 0] 66)).drew.heap[Z.heap.size]? = some (.cells #[.string ⟨#[]⟩, .int .u32 0, .int .i64 0] 66 (0, 0)) := heap_alloc_new Z _
    have x0 := keep_cell (box_below Z (.cells #[.string ⟨#[]⟩, .int .u32 0, .int .i64 0] 66)) y0
    have x1 := keep_cell (box_below Z (.cells #[.string ⟨#[]⟩, .int .u32 0, .int .i64 0] 66)) y1
    replace y0 : Z.drew.cell? _ = _ := y0
    replace y1 : Z.drew.cell? _ = _ := y1
    replace x0 : (Z.alloc (.cells #[.string ⟨#[]⟩, .int .u32 0, .int .i64 0] 66)).drew.cell? _ = _ := x0
    replace x1 : (Z.alloc (.cells #[.string ⟨#[]⟩, .int .u32 0, .int .i64 0] 66)).drew.cell? _ = _ := x1
    clear hZ hvr her HWH
    go_wp2_with fail
    go_cut [9, 10] (fun E S w2 => E = er ∧ ∃ r10 : Nat, S = .pointer (some ⟨r10, 0, none⟩) ∧ Hid (Below Z.heap.size Z w2) ∧ Hid (w2.heap[r10]? = some (.cells #[.string path, .int .u32 ip, .int .i64 port] 66 (0, 0))))
    case first => as_aux_lemma =>
     go_region_held3 (fun w' => w'.cell? ⟨r6, at_, none⟩ = some (.int .i64 (k : Nat)) ∧ w'.cell? ⟨g, 4 + n * 29 + 16, none⟩ = some (.string q1))
      (first | (with_reducible exact ⟨y0, y1⟩) | (with_reducible exact ⟨x0, x1⟩) | (with_reducible exact ⟨r0, r1⟩) | (with_reducible exact ⟨keep_cell (box_below Z.drew _) y0, keep_cell (box_below Z.drew _) y1⟩) | (with_reducible exact ⟨keep_cell (box_below Y _) r0, keep_cell (box_below Y _) r1⟩) | (with_reducible exact ⟨keepv hrZ r0, keepv hgZ r1⟩) | go_keep)
      ((first
       | (go_at_call 56; with_reducible refine (HVO Z.drew).mono ?_; rintro e Y ⟨rfl, hY⟩; have HB := hide (below_next (Below.refl _ Z).drew hY); have r0 := keep_cell hY y0; have r1 := keep_cell hY y1; clear hY)
       | (go_at_call 56; refine (HVO (Z.alloc (.cells #[.string ⟨#[]⟩, .int .u32 0, .int .i64 0] 66)).drew).mono ?_; rintro e Y ⟨rfl, hY⟩; have HB := hide (below_next (box_below Z (.cells #[.string ⟨#[]⟩, .int .u32 0, .int .i64 0] 66)).drew hY); have r0 := keep_cell hY x0; have r1 := keep_cell hY x1; have uh := (hY.block Z.heap.size (by show _ < (Z.alloc _).heap.size; rw [World.size_alloc]; exact Nat.lt_succ_self _)).trans zb; obtain ⟨⟨p0, p1, p2⟩, g0, g1, g2⟩ := lrow_cells uh; clear hY)))
     all_goals
      go_wp2_with fail
      go_meet
      case rel => first
       | with_reducible exact ⟨rfl, Y.heap.size, rfl, hide (below_next HB.out (box_below _ _)), hide (heap_alloc_new _ _)⟩
       | exact ⟨rfl, Z.heap.size, rfl, hide (by rw [lset3 uh]; exact below_setRow HB.out (Nat.le_refl _) _), hide (by rw [lset3 uh]; exact setRow_heap _ _ _ _ _ _ uh)⟩
    case rest => as_aux_lemma =>
     obtain ⟨rfl, r10, rfl, HB2, HR2⟩ := hcut
     have HX2 := hide ((HC.out.1.on HD.out).on HB2.out)
     have HF2 := hide ((HC.out.2.2.2.trans (Fr.of lv HD.out)).trans (Fr.of lv HB2.out))
     clear y0 y1 x0 x1 zb HVO
     have HVV := HVR.out
     unfold valR at HVV
     cases hvo : valOf k l1 with
     | none => as_aux_lemma =>
      rw [hvo] at HVV HSL
      simp only [Prod.mk.injEq] at HVV HSL
      have hf0 : f ≠ 0 := by rw [HVV.2]; split <;> omega
      have hfe : errnoN f = valErr k := by
       rw [HVV.2]
       unfold valErr
       by_cases h3 : k = 3
       ·
        rw [if_pos h3, if_pos h3]; rfl
       ·
        rw [if_neg h3, if_neg h3]; rfl
      have HE := fail_any n hn f HX2.out hlog
      rw [hfe, end_put (t := { s.T n with read := l1 }) 2 _ zeroVS rfl rfl rfl] at HE
      have hu := HER.out
      rw [errV_pos hf0] at hu
      subst hu
      clear HVV hvo
      go_wp2_with fail
      refine HE.mono ?_
      rintro e w' hG
      obtain ⟨rfl, lv', h1, h2⟩ := hG
      go_wp2
      go_end0
      rw [HSL.out]
      exact ⟨rfl, lv', h1, HF2.out.trans h2⟩
     | some vv => as_aux_lemma =>
      rw [hvo] at HVV HSL
      simp only [Prod.mk.injEq] at HVV HSL
      obtain ⟨hvv, hf0⟩ := HVV
      have hu := HER.out
      rw [hf0, errV_zero] at hu
      subst hu
      have HXD := hide (HX2.out.on (Below.refl _ _).drew)
      have r0 : wc.drew.cell? ⟨r10, 0, none⟩ = some (.string path) := cell_of_row _ _ 0 _ _ _ HR2.out
      have r1 : wc.drew.cell? ⟨r10, 1, none⟩ = some (.int .u32 ip) := cell_of_row _ _ 1 _ _ _ HR2.out
      have r2 : wc.drew.cell? ⟨r10, 2, none⟩ = some (.int .i64 port) := cell_of_row _ _ 2 _ _ _ HR2.out
      obtain ⟨V, hV⟩ : ∃ V, V = wc.drew.setCells g (4 + n * 29 + 17 + at_ * 3) (#[.string path, .int .u32 ip, .int .i64 port] : Array Value).toList := ⟨_, rfl⟩
      have HV := hide (show WX g gm P (s.put n { s.T n with read := l1, vals := updF (s.T n).vals at_ ⟨path, ip, port⟩ }) lv V by rw [hV]; exact HXD.out.setVal at_ hn hat4 ⟨path, ip, port⟩)
      have HFV := hide (show Fr g gm lv lv W V by rw [hV]; exact (HF2.out.trans (Fr.of lv (Below.refl _ _).drew)).trans (Fr.cells lv _ _ _))
      clear hvo hf0
      go_wp2_with fail
      refine wp_region_any (by kernel_rfl) ?_
      change wpAny _ _ _ _ _ _ _ (World.drew _)
      refine Gl.wpAny_takeOf 0 (some 94) (Value.pointer (some ⟨g, 4 + n * 29, none⟩)) rfl rfl (by kernel_rfl) (by kernel_rfl) (by kernel_rfl) (fun _ _ _ h => h) (Or.inl ⟨by rfl, ?_⟩) ?_
      ·
       intro wx
       go_simp
      try simp only [Act.put, LT1, LT2, LT3]
      refine Gl.wpAny_takeOf 1 (some 95) (.int .i64 (at_ : Nat)) rfl rfl (by kernel_rfl) (by kernel_rfl) (by kernel_rfl) (fun _ _ _ h => h) (Or.inl ⟨by rfl, ?_⟩) ?_
      ·
       intro wx
       go_simp
      try simp only [Act.put, LT1, LT2, LT3]
      refine Gl.wpAny_takeOf 3 (some 97) (Value.pointer (some ⟨g, 4 + n * 29, none⟩)) rfl rfl (by kernel_rfl) (by kernel_rfl) (by kernel_rfl) (fun _ _ _ h => h) (Or.inl ⟨by rfl, ?_⟩) ?_
      ·
       intro wx
       go_simp
      try simp only [Act.put, LT1, LT2, LT3]
      refine Gl.wpAny_takeOf 4 (some 98) (Value.pointer (some ⟨g, 4 + n * 29 + 17, none⟩)) rfl rfl (by kernel_rfl) (by kernel_rfl) (by kernel_rfl) (fun _ _ _ h => h) (Or.inl ⟨by rfl, ?_⟩) ?_
      ·
       intro wx
       go_simp
      try simp only [Act.put, LT1, LT2, LT3]
      refine Gl.wpAny_only (i := 2) (by kernel_rfl) rfl rfl (fun K hK => ?_)
      go_simp
      refine hK _ _ ?_
      clear hK K
      try simp only [Act.put, LT1, LT2, LT3]
      refine Gl.wpAny_only (i := 5) (by kernel_rfl) rfl rfl (fun K hK => ?_)
      go_simp
      refine hK _ _ ?_
      clear hK K
      try simp only [Act.put, LT1, LT2, LT3]
      refine Gl.wpAny_only (i := 6) (by kernel_rfl) rfl rfl (fun K hK => ?_)
      refine wp_store_mid (P := Tryz.prog) 66 _ _ rfl g (4 + n * 29 + 17 + at_ * 3) #[.string path, .int .u32 ip, .int .i64 port] rfl rfl (by intro j hj; exact ⟨by rw [HXD.out.cell _ (by have h3 : j < 3 := hj; omega)]; rfl, HXD.out.fro _⟩) size_vl (by simp [Value.oneCell']) ?_
      refine hK _ _ ?_
      clear hK K
      try simp only [Act.put]
      refine wpAny_done (by kernel_rfl) ?_ _

      rw [← hV]
      clear hV r0 r1 r2
      have v16 : V.cell? ⟨g, 4 + n * 29 + 16, none⟩ = some (.string q1) := by rw [HV.out.th n 16 hn (by omega), T_put, HQ1.out]; rfl
      have f16 : V.frozen? ⟨g, 4 + n * 29 + 16, none⟩ = false := HV.out.fro _
      have HV1 := hide (HV.out.setT' 16 hn (by omega) (.string ⟨#[]⟩) { s.T n with read := [], vals := updF (s.T n).vals at_ ⟨path, ip, port⟩ } (fun k => by rw [show ({ s.T n with read := [], vals := updF (s.T n).vals at_ ⟨path, ip, port⟩ } : TH) = { ({ s.T n with read := l1, vals := updF (s.T n).vals at_ ⟨path, ip, port⟩ } : TH) with read := [] } from rfl, cellT_read']; rfl))
      have v15 : (V.setCell ⟨g, 4 + n * 29 + 16, none⟩ (.string ⟨#[]⟩)).cell? ⟨g, 4 + n * 29 + 15, none⟩ = some (.int .i64 (se : Nat)) := by rw [HV1.out.th n 15 hn (by omega), T_put, HEQ.out.2.2.1]; rfl
      have f15 : (V.setCell ⟨g, 4 + n * 29 + 16, none⟩ (.string ⟨#[]⟩)).frozen? ⟨g, 4 + n * 29 + 15, none⟩ = false := HV1.out.fro _
      have hL2 : L ≤ 2 := by rw [HEQ.out.2.1, HEQ.out.1]; exact pts_few _
      have HV2 := hide (HV1.out.setT' 15 hn (by omega) (.int .i64 ((se : Int) + 1)) { s.T n with read := [], seen := se + 1, vals := updF (s.T n).vals at_ ⟨path, ip, port⟩ } (fun k => by rw [show ({ s.T n with read := [], seen := se + 1, vals := updF (s.T n).vals at_ ⟨path, ip, port⟩ } : TH) = { ({ s.T n with read := [], vals := updF (s.T n).vals at_ ⟨path, ip, port⟩ } : TH) with seen := se + 1 } from rfl, cellT_seen']; rfl))
      have HF2' := hide (HFV.out.trans ((Fr.set (g := g) (gm := gm) lv V (4 + n * 29 + 16) (.string ⟨#[]⟩)).trans (Fr.set lv _ (4 + n * 29 + 15) (.int .i64 ((se : Int) + 1)))))
      have v0 : ((V.setCell ⟨g, 4 + n * 29 + 16, none⟩ (.string ⟨#[]⟩)).setCell ⟨g, 4 + n * 29 + 15, none⟩ (.int .i64 ((se : Int) + 1))).cell? ⟨g, 4 + n * 29, none⟩ = some (.int .i64 2) := by
       have h0 := HV2.out.phase n hn
       rw [T_put] at h0
       simp only [hph] at h0
       exact h0
      have f0 : ((V.setCell ⟨g, 4 + n * 29 + 16, none⟩ (.string ⟨#[]⟩)).setCell ⟨g, 4 + n * 29 + 15, none⟩ (.int .i64 ((se : Int) + 1))).frozen? ⟨g, 4 + n * 29, none⟩ = false := HV2.out.fro _
      clear HI HRD HT HH HAI HCB HQQ HK HQ1 HVR HER HC HD HB2 HR2 HX2 HF2 HXD HV HFV HV1 hka4 hka1 HKA hbyt hkind
      by_cases hsl : se + 1 = L
      ·
       rw [if_pos hsl] at HSL
       have HV3 := hide (HV2.out.setT' 0 hn (by omega) (.int .i64 3) { s.T n with read := [], seen := se + 1, phase := 3, vals := updF (s.T n).vals at_ ⟨path, ip, port⟩ } (fun k => by rw [show ({ s.T n with read := [], seen := se + 1, phase := 3, vals := updF (s.T n).vals at_ ⟨path, ip, port⟩ } : TH) = { ({ s.T n with read := [], seen := se + 1, vals := updF (s.T n).vals at_ ⟨path, ip, port⟩ } : TH) with phase := 3 } from rfl, cellT_phase']; rfl))
       have bq : (((se : Int) + 1) == (L : Int)) = true := by simp; omega
       clear hsl
       go_wp2_with fail
       go_end0
       rw [HSL.out, ← hvv]
       exact ⟨rfl, lv, HV3.out, HF2'.out.trans (Fr.set lv _ _ _)⟩
      ·
       rw [if_neg hsl] at HSL
       have bq : (((se : Int) + 1) == (L : Int)) = false := by simp; omega
       clear hsl
       go_wp2_with fail
       go_end0
       rw [HSL.out, ← hvv]
       refine ⟨rfl, lv, ?_, HF2'.out⟩
       have h9 := HV2.out
       rw [show ({ s.T n with read := [], seen := se + 1, vals := updF (s.T n).vals at_ ⟨path, ip, port⟩ } : TH) = { s.T n with vals := updF (s.T n).vals at_ ⟨path, ip, port⟩, read := [], seen := se + 1, phase := 2 } by simp only [hph]] at h9
       exact h9
end Go.Proofs.YtklibmijiecbfaaGreat
