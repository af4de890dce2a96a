/- snap. -/
import Derived.Test.YtklibmijiecbfaaGreatK13
import Derived.Test.YtklibmijiecbfaaGreatK9
import Derived.Test.YtklibmijiecbfaaGreatK10
import Derived.Test.YtklibmijiecbfaaGreatK6
import Derived.Test.YtklibmijiecbfaaGreatK14
import Derived.Test.YtklibmijiecbfaaGreatK12
namespace Go.Proofs.YtklibmijiecbfaaGreat
open Go.RowKit Mm

set_option maxHeartbeats 2000000 in
set_option maxRecDepth 20000 in
theorem snap_any {g gm : Nat} {P : PV} {s : WS} {lv : Value} {W : World} (n : Nat) (hn : n < 3) (hi : Inv P.p s) (hph : (s.T n).phase = 2) (h : WX g gm P s lv W) (hlog : s.log.length ≤ 1000000) :
    Calls Tryz.prog 28 #[.pointer (some ⟨g, 0, none⟩), .int .i64 n] W (Goes g gm P (snapS n s) lv W) := by
  have j1 : (0 : Int) ≤ n := by omega
  have j2 : (n : Int) < 3 := by omega
  have ht := hi.thr n hn
  have hnr := ht.trc (by omega) (by omega)
  obtain ⟨hseen, hrd⟩ := ht.snap hph
  have hbyt := hi.mem.fine.bytes
  have HP := pts_some (s.T n).call hnr W
  unfold klV klC at HP
  have x1 := h.th n 1 hn (by omega)
  have x2 := h.th n 2 hn (by omega)
  have x3 := h.th n 3 hn (by omega)
  have x4 := h.th n 4 hn (by omega)
  have x5 := h.th n 5 hn (by omega)
  have x6 := h.th n 6 hn (by omega)
  rw [(cellT_call _).1] at x1
  rw [(cellT_call _).2.1] at x2
  rw [(cellT_call _).2.2.1] at x3
  rw [(cellT_call _).2.2.2.1] at x4
  rw [(cellT_call _).2.2.2.2.1] at x5
  rw [(cellT_call _).2.2.2.2.2] at x6
  obtain ⟨ka, hka⟩ : ∃ k, k = kindsA (s.T n).call.nr := ⟨_, rfl⟩
  have hka4 : ka.size = 4 := by rw [hka]; rfl
  have hka1 : ka.all (·.oneCell') = true := by rw [hka]; exact kindsA_one _
  have HKA := hide hka
  rw [← hka] at HP
  obtain ⟨pts, hpts⟩ : ∃ l, l = ptsOf (s.T n).call.nr := ⟨_, rfl⟩
  rw [← hpts] at HP hseen
  obtain ⟨L, hL⟩ : ∃ m, m = pts.length := ⟨_, rfl⟩
  rw [← hL] at HP hseen
  have HH := hide h
  have HT := hide ht
  have HI := hide hi
  have HRD := hide hrd
  clear h ht hi hrd hka
  go_enter Tryz.func28, Tryz.ntmps28
  go_wp2_with fail
  refine HP.mono ?_
  rintro e Y ⟨⟨oa, cap, rfl, hcap, hcap2, hints⟩, hY⟩
  have HS := hide (SX.of ka #[.int .i64 0, .int .i64 0, .int .i64 0, .int .i64 0] HH.out hints hY)
  obtain ⟨X, hX⟩ : ∃ X, X = (Y.alloc (.cells #[.int .i64 0, .int .i64 0, .int .i64 0, .int .i64 0] 126)).setRow Y.heap.size ka := ⟨_, rfl⟩
  rw [← hX] at HS
  obtain ⟨r6, hr6⟩ : ∃ r, r = Y.heap.size := ⟨_, rfl⟩
  obtain ⟨se, hse⟩ : ∃ x, x = (s.T n).seen := ⟨_, rfl⟩
  obtain ⟨at_, hat⟩ : ∃ x, x = ptAt (s.T n) := ⟨_, rfl⟩
  obtain ⟨ar, har⟩ : ∃ x, x = (s.T n).args at_ := ⟨_, rfl⟩
  obtain ⟨rd, hrdd⟩ : ∃ x, x = (s.T n).read := ⟨_, rfl⟩
  obtain ⟨q, hq⟩ : ∃ x, x = bs rd := ⟨_, rfl⟩
  rw [← hse] at hseen
  have hpt : pts[se]? = some at_ := by
    rw [hat, hpts, hse]
    unfold ptAt
    rw [List.getD_eq_getElem?_getD, List.getElem?_eq_getElem (by rw [← hse, ← hpts, ← hL]; exact hseen)]
    rfl
  have hmem := List.mem_of_getElem? hpt
  rw [hpts] at hmem
  obtain ⟨_, hat4, hkind⟩ := pts_of hmem
  obtain ⟨b, off, rfl, hbw, hbl, hel⟩ := HS.out.ints.lie (by omega)
  have y0 := hel se at_ hpt
  have y1 : X.cell? ⟨g, 4 + n * 29 + 15, none⟩ = some (.int .i64 se) := by rw [hse]; exact HS.out.ward.th n 15 hn (by omega)
  have y2 := HS.out.ward.ptr
  have y3 : X.cell? ⟨g, 4 + n * 29 + 7 + at_, none⟩ = some (.int .u64 ar) := by rw [Nat.add_assoc (4 + n * 29), HS.out.ward.th n (7 + at_) hn (by omega), cellT_arg _ _ hat4, har]
  have y4 : X.cell? ⟨g, 4 + n * 29 + 16, none⟩ = some (.string q) := by rw [hq, hrdd]; exact HS.out.ward.th n 16 hn (by omega)
  have i1 : (0 : Int) ≤ se := by omega
  have i2 : (se : Int) < L := by omega
  have i3 : (0 : Int) ≤ at_ := by omega
  have i4 : (at_ : Int) < 4 := by omega
  have HEQ := hide (And.intro hpts (And.intro hL (And.intro hse (And.intro hat (And.intro har (And.intro hrdd hq))))))
  clear HP x1 x2 x3 x4 x5 x6 hel hints hpts hL hse hat har hrdd hq hpt hmem
  go_wp2_with (refine wpList_store_row rfl 126 _ _ rfl Y.heap.size ka rfl rfl 126 _ (heap_alloc_new Y _) (by rw [hka4]; exact size_kinds) (by rw [hka4]; rfl) hka1 ?_; rw [← hX]; clear hX)
  have HM := hide HS.out.ward.mem
  have hwr : IntKind.wrap .u64 ((ar : Int) + IntKind.wrap .u64 (q.size : Int)) = ((addrI ar rd.length : Nat) : Int) := by
    rw [HEQ.out.2.2.2.2.2.2, bs_size]
    unfold addrI
    have hl : rd.length ≤ 40 := by
      have := HRD.out
      unfold readOk at this
      rw [← HEQ.out.2.2.2.2.2.1] at this
      by_cases h3 : kindAt (s.T n).call.nr (ptAt (s.T n)) = 3
      · have := this.1 h3; omega
      · exact (this.2 h3).1
    rw [IntKind.wrap_u64, IntKind.wrap_u64]
    omega
  obtain ⟨pk, hpk⟩ : ∃ x, x = peek s.mem (addrI ar rd.length) := ⟨_, rfl⟩
  have HB := fun m => byte_isM (W := X.drewN m) HM.out (addrI ar rd.length) (Nat.mod_lt _ (by decide))
  rw [← hpk] at HB
  obtain ⟨ai, hai⟩ : ∃ x : Nat, x = addrI ar rd.length := ⟨_, rfl⟩
  rw [← hai] at HB hwr hpk
  have HAI := hide (And.intro hai hpk)
  clear hai hpk
  have HSP := hide (show snapS n s = pk.elim (endS n 2 14 zeroVS s) (fun b => snapL n (rd ++ [UInt8.ofNat b]) s) by
    unfold snapS
    rw [HAI.out.2, HAI.out.1, HEQ.out.2.2.2.2.1, HEQ.out.2.2.2.1, HEQ.out.2.2.2.2.2.1]
    unfold addrI
    cases peek s.mem (((s.T n).args (ptAt (s.T n)) + (s.T n).read.length) % 18446744073709551616) <;> rfl)
  obtain ⟨r6, hr6⟩ : ∃ r, r = Y.heap.size := ⟨_, rfl⟩
  rw [← hr6] at HS
  rw [← hr6]
  clear hr6
  cases pk with
  | none => as_aux_lemma =>
    unfold byteV at HB
    simp only [Option.elim] at HB HSP
    go_quiet ((go_at_call 53; exact Calls.quiet_of_same (HB _)))
    obtain ⟨Z, hZ⟩ : ∃ Z, Z = X.drewN nq := ⟨_, rfl⟩
    have HZ := hide (HS.out.on (by rw [hZ]; exact below_drewN (Below.refl _ _) _) : SX g gm P s lv _ pts ka r6 W Z)
    rw [← hZ]
    clear hZ HB HS y0 y1 y2 y3 y4
    have HE := fail_any n hn 5 HZ.out.ward hlog
    go_wp2_with fail
    refine HE.mono ?_
    rintro e w' hG
    obtain ⟨rfl, h1⟩ := hG
    go_wp2
    go_end0
    rw [HSP.out]
    exact Goes.from HZ.out.fr ⟨rfl, h1⟩
  | some bt =>
    unfold byteV at HB
    simp only [Option.elim] at HB HSP
    go_quiet ((go_at_call 53; exact Calls.quiet_of_same (HB _)))
    obtain ⟨Z, hZ⟩ : ∃ Z, Z = X.drewN nq := ⟨_, rfl⟩
    have HZ := hide (HS.out.on (by rw [hZ]; exact below_drewN (Below.refl _ _) _) : SX g gm P s lv _ pts ka r6 W Z)
    rw [← hZ]
    have z4 : Z.drew.cell? ⟨g, 4 + n * 29 + 16, none⟩ = some (.string q) := by rw [hZ]; exact y4
    have f4 : Z.drew.frozen? ⟨g, 4 + n * 29 + 16, none⟩ = false := HZ.out.ward.fro _
    have z5 := keep_cell (box_below Z.drew (.cells #[.int .u8 (bt : Nat)] 5)) z4
    have f5 : (Z.alloc (.cells #[.int .u8 (bt : Nat)] 5)).drew.frozen? ⟨g, 4 + n * 29 + 16, none⟩ = false := (HZ.out.ward.on (box_below Z (.cells #[.int .u8 (bt : Nat)] 5))).fro _
    replace z5 : (Z.alloc (.cells #[.int .u8 (bt : Nat)] 5)).drew.cell? _ = _ := z5
    have hb256 : bt < 256 := by
      have h1 := HAI.out.2
      unfold peek at h1
      split at h1
      · rw [Option.some.inj h1]; exact hbyt _
      · cases h1
    have hcv := conv_one (Z.alloc (.cells #[.int .u8 (bt : Nat)] 5)).drew Z.heap.size bt hb256 (cell_of_row _ _ 0 _ _ _ (heap_alloc_new Z _))
    obtain ⟨cb, hcb⟩ : ∃ c, c = bs [UInt8.ofNat bt] := ⟨_, rfl⟩
    rw [← hcb] at hcv
    have hcat : ¬ 9223372036854775807 < q.size + cb.size := by
      rw [hcb, bs_size, HEQ.out.2.2.2.2.2.2, bs_size]
      simp only [List.length_singleton]
      have := HRD.out
      unfold readOk at this
      rw [← HEQ.out.2.2.2.2.2.1] at this
      by_cases h3 : kindAt (s.T n).call.nr (ptAt (s.T n)) = 3
      · have := this.1 h3; omega
      · have := (this.2 h3).1; omega
    have HQQ := hide (show bs (rd ++ [UInt8.ofNat bt]) = q ++ cb by rw [hcb, HEQ.out.2.2.2.2.2.2, bs_append])
    have HW6 := hide ((HZ.out.on (box_below Z (.cells #[.int .u8 (bt : Nat)] 5))).fr' HH.out (((HZ.out.ward.on (box_below Z (.cells #[.int .u8 (bt : Nat)] 5))).on (Below.refl _ _).drew).setT n 16 hn (by omega) (.string (q ++ cb)) { s.T n with read := rd ++ [UInt8.ofNat bt] } (fun k hk => by rw [cellT_read' _ _ k, HQQ.out])) ((Fr.of lv (Below.refl _ _).drew).trans (Fr.set lv _ _ _)))
    have HCB := hide hcb
    clear hcb
    clear hZ HB HS y0 y1 y2 y3 y4 HM
    go_wp2_with fail
    go_cut [8] (fun S wc => S = .int .u8 bt ∧ Hid (WX g gm P (s.put n { s.T n with read := rd ++ [UInt8.ofNat bt] }) lv wc ∧ IsInts W.heap.size (some ⟨b, off, none⟩) pts wc ∧ wc.heap[r6]? = some (.cells ka 126 (0, 0)) ∧ Fr g gm lv lv W wc))
    case first => as_aux_lemma =>
      refine wp_region_any (by kernel_rfl) ?_
      change wpAny _ _ _ _ _ _ _ (World.drew _)
      refine Gl.wpAny_takeOf 0 (some 58) (Value.pointer (some ⟨g, 4 + n * 29, none⟩)) rfl rfl (by kernel_rfl) (by kernel_rfl) (by kernel_rfl) (fun _ _ _ h => h) (Or.inl ⟨by rfl, ?_⟩) ?_
      · intro wx
        go_simp
      try simp only [Act.put, List.setIfInBounds_toArray, List.set_cons_zero, List.set_cons_succ]
      refine Gl.wpAny_takeOf 1 (some 59) (Value.pointer (some ⟨g, 4 + n * 29, none⟩)) rfl rfl (by kernel_rfl) (by kernel_rfl) (by kernel_rfl) (fun _ _ _ h => h) (Or.inl ⟨by rfl, ?_⟩) ?_
      · intro wx
        go_simp
      try simp only [Act.put, List.setIfInBounds_toArray, List.set_cons_zero, List.set_cons_succ]
      refine Gl.wpAny_takeOf 2 (some 60) (Value.pointer (some ⟨g, 4 + n * 29 + 16, none⟩)) rfl rfl (by kernel_rfl) (by kernel_rfl) (by kernel_rfl) (fun _ _ _ h => h) (Or.inl ⟨by rfl, ?_⟩) ?_
      · intro wx
        go_simp
      try simp only [Act.put, List.setIfInBounds_toArray, List.set_cons_zero, List.set_cons_succ]
      refine Gl.wpAny_takeOf 4 (some 62) (.int .u8 bt) rfl rfl (by kernel_rfl) (by kernel_rfl) (by kernel_rfl) (fun _ _ _ h => h) (Or.inl ⟨by rfl, ?_⟩) ?_
      · intro wx
        go_simp
      try simp only [Act.put, List.setIfInBounds_toArray, List.set_cons_zero, List.set_cons_succ]
      refine wpAny_two (i := 3) (j := 5) (by kernel_rfl) rfl rfl rfl rfl (fun K hK => ?_) (fun K hK => ?_)
      · go_simp
        refine hK _ _ ?_
        clear hK K
        try simp only [Act.put, List.setIfInBounds_toArray, List.set_cons_zero, List.set_cons_succ]
        refine Gl.wpAny_only (i := 5) (by kernel_rfl) rfl rfl (fun K hK => ?_)
        go_simp
        refine hK _ _ ?_
        clear hK K
        try simp only [Act.put, List.setIfInBounds_toArray, List.set_cons_zero, List.set_cons_succ]
        refine Gl.wpAny_only (i := 6) (by kernel_rfl) rfl rfl (fun K hK => ?_)
        go_simp
        refine hK _ _ ?_
        clear hK K
        try simp only [Act.put, List.setIfInBounds_toArray, List.set_cons_zero, List.set_cons_succ]
        refine Gl.wpAny_only (i := 7) (by kernel_rfl) rfl rfl (fun K hK => ?_)
        go_simp
        refine hK _ _ ?_
        clear hK K
        try simp only [Act.put, List.setIfInBounds_toArray, List.set_cons_zero, List.set_cons_succ]
        refine Gl.wpAny_takeOf 8 (some 66) (Value.pointer (some ⟨g, 4 + n * 29, none⟩)) rfl rfl (by kernel_rfl) (by kernel_rfl) (by kernel_rfl) (fun _ _ _ h => h) (Or.inl ⟨by rfl, ?_⟩) ?_
        · intro wx
          go_simp
        try simp only [Act.put, List.setIfInBounds_toArray, List.set_cons_zero, List.set_cons_succ]
        refine Gl.wpAny_takeOf 9 (some 67) (Value.pointer (some ⟨g, 4 + n * 29 + 16, none⟩)) rfl rfl (by kernel_rfl) (by kernel_rfl) (by kernel_rfl) (fun _ _ _ h => h) (Or.inl ⟨by rfl, ?_⟩) ?_
        · intro wx
          go_simp
        try simp only [Act.put, List.setIfInBounds_toArray, List.set_cons_zero, List.set_cons_succ]
        refine Gl.wpAny_only (i := 10) (by kernel_rfl) rfl rfl (fun K hK => ?_)
        go_simp
        refine hK _ _ ?_
        clear hK K
        try simp only [Act.put, List.setIfInBounds_toArray, List.set_cons_zero, List.set_cons_succ]
        refine wpAny_done (by kernel_rfl) ?_ _
        go_wp2_with fail
        go_meet
        case rel => exact ⟨rfl, HW6⟩
      · go_simp
        refine hK _ _ ?_
        clear hK K
        try simp only [Act.put, List.setIfInBounds_toArray, List.set_cons_zero, List.set_cons_succ]
        refine wpAny_two (i := 3) (j := 6) (by kernel_rfl) rfl rfl rfl rfl (fun K hK => ?_) (fun K hK => ?_)
        · go_simp
          refine hK _ _ ?_
          clear hK K
          try simp only [Act.put, List.setIfInBounds_toArray, List.set_cons_zero, List.set_cons_succ]
          refine Gl.wpAny_only (i := 6) (by kernel_rfl) rfl rfl (fun K hK => ?_)
          go_simp
          refine hK _ _ ?_
          clear hK K
          try simp only [Act.put, List.setIfInBounds_toArray, List.set_cons_zero, List.set_cons_succ]
          refine Gl.wpAny_only (i := 7) (by kernel_rfl) rfl rfl (fun K hK => ?_)
          go_simp
          refine hK _ _ ?_
          clear hK K
          try simp only [Act.put, List.setIfInBounds_toArray, List.set_cons_zero, List.set_cons_succ]
          refine Gl.wpAny_takeOf 8 (some 66) (Value.pointer (some ⟨g, 4 + n * 29, none⟩)) rfl rfl (by kernel_rfl) (by kernel_rfl) (by kernel_rfl) (fun _ _ _ h => h) (Or.inl ⟨by rfl, ?_⟩) ?_
          · intro wx
            go_simp
          try simp only [Act.put, List.setIfInBounds_toArray, List.set_cons_zero, List.set_cons_succ]
          refine Gl.wpAny_takeOf 9 (some 67) (Value.pointer (some ⟨g, 4 + n * 29 + 16, none⟩)) rfl rfl (by kernel_rfl) (by kernel_rfl) (by kernel_rfl) (fun _ _ _ h => h) (Or.inl ⟨by rfl, ?_⟩) ?_
          · intro wx
            go_simp
          try simp only [Act.put, List.setIfInBounds_toArray, List.set_cons_zero, List.set_cons_succ]
          refine Gl.wpAny_only (i := 10) (by kernel_rfl) rfl rfl (fun K hK => ?_)
          go_simp
          refine hK _ _ ?_
          clear hK K
          try simp only [Act.put, List.setIfInBounds_toArray, List.set_cons_zero, List.set_cons_succ]
          refine wpAny_done (by kernel_rfl) ?_ _
          go_wp2_with fail
          go_meet
          case rel => exact ⟨rfl, HW6⟩
        · go_simp
          refine hK _ _ ?_
          clear hK K
          try simp only [Act.put, List.setIfInBounds_toArray, List.set_cons_zero, List.set_cons_succ]
          refine Gl.wpAny_only (i := 3) (by kernel_rfl) rfl rfl (fun K hK => ?_)
          go_simp
          refine hK _ _ ?_
          clear hK K
          try simp only [Act.put, List.setIfInBounds_toArray, List.set_cons_zero, List.set_cons_succ]
          refine Gl.wpAny_only (i := 7) (by kernel_rfl) rfl rfl (fun K hK => ?_)
          go_simp
          refine hK _ _ ?_
          clear hK K
          try simp only [Act.put, List.setIfInBounds_toArray, List.set_cons_zero, List.set_cons_succ]
          refine Gl.wpAny_takeOf 8 (some 66) (Value.pointer (some ⟨g, 4 + n * 29, none⟩)) rfl rfl (by kernel_rfl) (by kernel_rfl) (by kernel_rfl) (fun _ _ _ h => h) (Or.inl ⟨by rfl, ?_⟩) ?_
          · intro wx
            go_simp
          try simp only [Act.put, List.setIfInBounds_toArray, List.set_cons_zero, List.set_cons_succ]
          refine Gl.wpAny_takeOf 9 (some 67) (Value.pointer (some ⟨g, 4 + n * 29 + 16, none⟩)) rfl rfl (by kernel_rfl) (by kernel_rfl) (by kernel_rfl) (fun _ _ _ h => h) (Or.inl ⟨by rfl, ?_⟩) ?_
          · intro wx
            go_simp
          try simp only [Act.put, List.setIfInBounds_toArray, List.set_cons_zero, List.set_cons_succ]
          refine Gl.wpAny_only (i := 10) (by kernel_rfl) rfl rfl (fun K hK => ?_)
          go_simp
          refine hK _ _ ?_
          clear hK K
          try simp only [Act.put, List.setIfInBounds_toArray, List.set_cons_zero, List.set_cons_succ]
          refine wpAny_done (by kernel_rfl) ?_ _
          go_wp2_with fail
          go_meet
          case rel => exact ⟨rfl, HW6⟩

    case rest => as_aux_lemma =>
      obtain ⟨rfl, HC⟩ := hcut
      clear z4 z5 f4 f5 hcv hcat HW6 HZ
      obtain ⟨l1, hl1⟩ : ∃ l, l = rd ++ [UInt8.ofNat bt] := ⟨_, rfl⟩
      rw [← hl1] at HC HSP
      have hlen : l1.length ≤ 9000 := by
        rw [hl1, List.length_append, List.length_singleton]
        have := HRD.out
        unfold readOk at this
        rw [← HEQ.out.2.2.2.2.2.1] at this
        by_cases h3 : kindAt (s.T n).call.nr (ptAt (s.T n)) = 3
        · have := this.1 h3; omega
        · have := (this.2 h3).1; omega
      obtain ⟨k, hk⟩ : ∃ k, k = kindAt (s.T n).call.nr at_ := ⟨_, rfl⟩
      rw [← hk] at hkind
      have y0 : wc.cell? ⟨r6, at_, none⟩ = some (.int .i64 (k : Nat)) := by rw [cell_of_row _ _ _ _ _ _ HC.out.2.2.1, HKA.out, hk]; exact kindsA_at _ _ hat4
      obtain ⟨q1, hq1⟩ : ∃ q, q = bs l1 := ⟨_, rfl⟩
      have y1 : wc.cell? ⟨g, 4 + n * 29 + 16, none⟩ = some (.string q1) := by rw [HC.out.1.th n 16 hn (by omega), T_put, hq1]; rfl
      have HWH := fun X => isWhole_any k l1 hlen X
      have HVO := fun X => valueOf_any k hkind l1 hlen X
      rw [← hq1] at HWH HVO
      have HSL := hide (show snapS n s = if wholeB k l1 = true then (match valOf k l1 with
        | none => endS n 2 (valErr k : Nat) zeroVS s
        | some v => s.put n { s.T n with vals := updF (s.T n).vals at_ v, read := [], seen := se + 1, phase := if se + 1 = L then 3 else 2 }) else s.put n { s.T n with read := l1 } by
          rw [HSP.out]
          unfold snapL
          simp only
          rw [← HEQ.out.2.2.2.1, ← hk, ← HEQ.out.2.2.1, ← HEQ.out.1, ← HEQ.out.2.1]
          rfl)
      obtain ⟨wb, hwb⟩ : ∃ b, b = wholeB k l1 := ⟨_, rfl⟩
      rw [← hwb] at HSL
      simp only [← hwb] at HWH
      have HK := hide hk
      have HQ1 := hide hq1
      clear hl1 hq1 hk hwb HSP hlen
      cases wb with
      | false => as_aux_lemma =>
        rw [if_neg Bool.false_ne_true] at HSL
        go_wp2_with fail
        go_quiet ((go_at_call 55; exact Calls.quiet_of_same (HWH _)))
        go_wp2
        go_end0
        rw [HSL.out]
        exact ⟨rfl, lv, HC.out.1.on (below_drewN (Below.refl _ _) _), HC.out.2.2.2.trans (Fr.of lv (below_drewN (Below.refl _ _) _))⟩
      | true =>
        rw [if_pos rfl] at HSL
        go_wp2_with fail
        go_quiet ((go_at_call 55; exact Calls.quiet_of_same (HWH _)))
        obtain ⟨Z, hZ⟩ : ∃ Z, Z = wc.drewN nq := ⟨_, rfl⟩
        have HD := hide (show Below wc.heap.size wc Z by rw [hZ]; exact below_drewN (Below.refl _ _) _)
        replace y0 := keep_cell HD.out y0
        replace y1 := keep_cell HD.out y1
        rw [← hZ]
        obtain ⟨⟨⟨path, ip, port⟩, f⟩, hvr⟩ : ∃ v, v = valR k l1 := ⟨_, rfl⟩
        simp only [← hvr] at HVO
        unfold vlC at HVO
        simp only at HVO
        obtain ⟨er, her⟩ : ∃ e, e = errV f := ⟨_, rfl⟩
        simp only [← her] at HVO
        have HER := hide her
        have HVR := hide hvr
        have hgZ : g ≠ Z.heap.size := Nat.ne_of_lt (HC.out.1.on HD.out).glt
        have hrZ : r6 ≠ Z.heap.size := Nat.ne_of_lt (Nat.lt_of_lt_of_le (Array.getElem?_eq_some_iff.1 HC.out.2.2.1).1 HD.out.size)
        have zb : (Z.alloc (.cells #[.string ⟨#[]⟩, .int .u32 0, .int .i64 0] 66)).drew.heap[Z.heap.size]? = some (.cells #[.string ⟨#[]⟩, .int .u32 0, .int .i64 0] 66 (0, 0)) := heap_alloc_new Z _
        have x0 := keep_cell (box_below Z (.cells #[.string ⟨#[]⟩, .int .u32 0, .int .i64 0] 66)) y0
        have x1 := keep_cell (box_below Z (.cells #[.string ⟨#[]⟩, .int .u32 0, .int .i64 0] 66)) y1
        replace y0 : Z.drew.cell? _ = _ := y0
        replace y1 : Z.drew.cell? _ = _ := y1
        replace x0 : (Z.alloc (.cells #[.string ⟨#[]⟩, .int .u32 0, .int .i64 0] 66)).drew.cell? _ = _ := x0
        replace x1 : (Z.alloc (.cells #[.string ⟨#[]⟩, .int .u32 0, .int .i64 0] 66)).drew.cell? _ = _ := x1
        clear hZ hvr her HWH
        go_wp2_with fail
        go_cut [9, 10] (fun E S w2 => E = er ∧ ∃ r10 : Nat, S = .pointer (some ⟨r10, 0, none⟩) ∧ Hid (Below Z.heap.size Z w2) ∧ Hid (w2.heap[r10]? = some (.cells #[.string path, .int .u32 ip, .int .i64 port] 66 (0, 0))))
        case first => as_aux_lemma =>
          go_region_held3 (fun w' => w'.cell? ⟨r6, at_, none⟩ = some (.int .i64 (k : Nat)) ∧ w'.cell? ⟨g, 4 + n * 29 + 16, none⟩ = some (.string q1))
            (first | (with_reducible exact ⟨y0, y1⟩) | (with_reducible exact ⟨x0, x1⟩) | (with_reducible exact ⟨r0, r1⟩) | (with_reducible exact ⟨keep_cell (box_below Z.drew _) y0, keep_cell (box_below Z.drew _) y1⟩) | (with_reducible exact ⟨keep_cell (box_below Y _) r0, keep_cell (box_below Y _) r1⟩) | (with_reducible exact ⟨keepv hrZ r0, keepv hgZ r1⟩) | go_keep)
            ((first
              | (go_at_call 56; with_reducible refine (HVO Z.drew).mono ?_; rintro e Y ⟨rfl, hY⟩; have HB := hide (below_next (Below.refl _ Z).drew hY); have r0 := keep_cell hY y0; have r1 := keep_cell hY y1; clear hY)
              | (go_at_call 56; refine (HVO (Z.alloc (.cells #[.string ⟨#[]⟩, .int .u32 0, .int .i64 0] 66)).drew).mono ?_; rintro e Y ⟨rfl, hY⟩; have HB := hide (below_next (box_below Z (.cells #[.string ⟨#[]⟩, .int .u32 0, .int .i64 0] 66)).drew hY); have r0 := keep_cell hY x0; have r1 := keep_cell hY x1; have uh := (hY.block Z.heap.size (by show _ < (Z.alloc _).heap.size; rw [World.size_alloc]; exact Nat.lt_succ_self _)).trans zb; obtain ⟨⟨p0, p1, p2⟩, g0, g1, g2⟩ := lrow_cells uh; clear hY)))
          all_goals
            go_wp2_with fail
            go_meet
            case rel => first
              | with_reducible exact ⟨rfl, Y.heap.size, rfl, hide (below_next HB.out (box_below _ _)), hide (heap_alloc_new _ _)⟩
              | exact ⟨rfl, Z.heap.size, rfl, hide (by rw [lset3 uh]; exact below_setRow HB.out (Nat.le_refl _) _), hide (by rw [lset3 uh]; exact setRow_heap _ _ _ _ _ _ uh)⟩
        case rest => as_aux_lemma =>
          obtain ⟨rfl, r10, rfl, HB2, HR2⟩ := hcut
          have HX2 := hide ((HC.out.1.on HD.out).on HB2.out)
          have HF2 := hide ((HC.out.2.2.2.trans (Fr.of lv HD.out)).trans (Fr.of lv HB2.out))
          clear y0 y1 x0 x1 zb HVO
          have HVV := HVR.out
          unfold valR at HVV
          cases hvo : valOf k l1 with
          | none => as_aux_lemma =>
            rw [hvo] at HVV HSL
            simp only [Prod.mk.injEq] at HVV HSL
            have hf0 : f ≠ 0 := by rw [HVV.2]; split <;> omega
            have hfe : errnoN f = valErr k := by
              rw [HVV.2]
              unfold valErr
              by_cases h3 : k = 3
              · rw [if_pos h3, if_pos h3]; rfl
              · rw [if_neg h3, if_neg h3]; rfl
            have HE := fail_any n hn f HX2.out hlog
            rw [hfe, end_put (t := { s.T n with read := l1 }) 2 _ zeroVS rfl rfl rfl] at HE
            have hu := HER.out
            rw [errV_pos hf0] at hu
            subst hu
            clear HVV hvo
            go_wp2_with fail
            refine HE.mono ?_
            rintro e w' hG
            obtain ⟨rfl, lv', h1, h2⟩ := hG
            go_wp2
            go_end0
            rw [HSL.out]
            exact ⟨rfl, lv', h1, HF2.out.trans h2⟩
          | some vv => as_aux_lemma =>
            rw [hvo] at HVV HSL
            simp only [Prod.mk.injEq] at HVV HSL
            obtain ⟨hvv, hf0⟩ := HVV
            have hu := HER.out
            rw [hf0, errV_zero] at hu
            subst hu
            have HXD := hide (HX2.out.on (Below.refl _ _).drew)
            have r0 : wc.drew.cell? ⟨r10, 0, none⟩ = some (.string path) := cell_of_row _ _ 0 _ _ _ HR2.out
            have r1 : wc.drew.cell? ⟨r10, 1, none⟩ = some (.int .u32 ip) := cell_of_row _ _ 1 _ _ _ HR2.out
            have r2 : wc.drew.cell? ⟨r10, 2, none⟩ = some (.int .i64 port) := cell_of_row _ _ 2 _ _ _ HR2.out
            obtain ⟨V, hV⟩ : ∃ V, V = wc.drew.setCells g (4 + n * 29 + 17 + at_ * 3) (#[.string path, .int .u32 ip, .int .i64 port] : Array Value).toList := ⟨_, rfl⟩
            have HV := hide (show WX g gm P (s.put n { s.T n with read := l1, vals := updF (s.T n).vals at_ ⟨path, ip, port⟩ }) lv V by rw [hV]; exact HXD.out.setVal at_ hn hat4 ⟨path, ip, port⟩)
            have HFV := hide (show Fr g gm lv lv W V by rw [hV]; exact (HF2.out.trans (Fr.of lv (Below.refl _ _).drew)).trans (Fr.cells lv _ _ _))
            clear hvo hf0
            go_wp2_with fail
            refine wp_region_any (by kernel_rfl) ?_
            change wpAny _ _ _ _ _ _ _ (World.drew _)
            refine Gl.wpAny_takeOf 0 (some 94) (Value.pointer (some ⟨g, 4 + n * 29, none⟩)) rfl rfl (by kernel_rfl) (by kernel_rfl) (by kernel_rfl) (fun _ _ _ h => h) (Or.inl ⟨by rfl, ?_⟩) ?_
            · intro wx
              go_simp
            try simp only [Act.put, List.setIfInBounds_toArray, List.set_cons_zero, List.set_cons_succ]
            refine Gl.wpAny_takeOf 1 (some 95) (.int .i64 (at_ : Nat)) rfl rfl (by kernel_rfl) (by kernel_rfl) (by kernel_rfl) (fun _ _ _ h => h) (Or.inl ⟨by rfl, ?_⟩) ?_
            · intro wx
              go_simp
            try simp only [Act.put, List.setIfInBounds_toArray, List.set_cons_zero, List.set_cons_succ]
            refine Gl.wpAny_takeOf 3 (some 97) (Value.pointer (some ⟨g, 4 + n * 29, none⟩)) rfl rfl (by kernel_rfl) (by kernel_rfl) (by kernel_rfl) (fun _ _ _ h => h) (Or.inl ⟨by rfl, ?_⟩) ?_
            · intro wx
              go_simp
            try simp only [Act.put, List.setIfInBounds_toArray, List.set_cons_zero, List.set_cons_succ]
            refine Gl.wpAny_takeOf 4 (some 98) (Value.pointer (some ⟨g, 4 + n * 29 + 17, none⟩)) rfl rfl (by kernel_rfl) (by kernel_rfl) (by kernel_rfl) (fun _ _ _ h => h) (Or.inl ⟨by rfl, ?_⟩) ?_
            · intro wx
              go_simp
            try simp only [Act.put, List.setIfInBounds_toArray, List.set_cons_zero, List.set_cons_succ]
            refine Gl.wpAny_only (i := 2) (by kernel_rfl) rfl rfl (fun K hK => ?_)
            go_simp
            refine hK _ _ ?_
            clear hK K
            try simp only [Act.put, List.setIfInBounds_toArray, List.set_cons_zero, List.set_cons_succ]
            refine Gl.wpAny_only (i := 5) (by kernel_rfl) rfl rfl (fun K hK => ?_)
            go_simp
            refine hK _ _ ?_
            clear hK K
            try simp only [Act.put, List.setIfInBounds_toArray, List.set_cons_zero, List.set_cons_succ]
            refine Gl.wpAny_only (i := 6) (by kernel_rfl) rfl rfl (fun K hK => ?_)
            refine wp_store_mid (P := Tryz.prog) 66 _ _ rfl g (4 + n * 29 + 17 + at_ * 3) #[.string path, .int .u32 ip, .int .i64 port] rfl rfl (by intro j hj; exact ⟨by rw [HXD.out.cell _ (by have h3 : j < 3 := hj; omega)]; rfl, HXD.out.fro _⟩) size_vl (by simp [Value.oneCell']) ?_
            refine hK _ _ ?_
            clear hK K
            try simp only [Act.put]
            refine wpAny_done (by kernel_rfl) ?_ _

            rw [← hV]
            clear hV r0 r1 r2
            have v16 : V.cell? ⟨g, 4 + n * 29 + 16, none⟩ = some (.string q1) := by rw [HV.out.th n 16 hn (by omega), T_put, HQ1.out]; rfl
            have f16 : V.frozen? ⟨g, 4 + n * 29 + 16, none⟩ = false := HV.out.fro _
            have HV1 := hide (HV.out.setT' 16 hn (by omega) (.string ⟨#[]⟩) { s.T n with read := [], vals := updF (s.T n).vals at_ ⟨path, ip, port⟩ } (fun k => by rw [show ({ s.T n with read := [], vals := updF (s.T n).vals at_ ⟨path, ip, port⟩ } : TH) = { ({ s.T n with read := l1, vals := updF (s.T n).vals at_ ⟨path, ip, port⟩ } : TH) with read := [] } from rfl, cellT_read']; rfl))
            have v15 : (V.setCell ⟨g, 4 + n * 29 + 16, none⟩ (.string ⟨#[]⟩)).cell? ⟨g, 4 + n * 29 + 15, none⟩ = some (.int .i64 (se : Nat)) := by rw [HV1.out.th n 15 hn (by omega), T_put, HEQ.out.2.2.1]; rfl
            have f15 : (V.setCell ⟨g, 4 + n * 29 + 16, none⟩ (.string ⟨#[]⟩)).frozen? ⟨g, 4 + n * 29 + 15, none⟩ = false := HV1.out.fro _
            have hL2 : L ≤ 2 := by rw [HEQ.out.2.1, HEQ.out.1]; exact pts_few _
            have HV2 := hide (HV1.out.setT' 15 hn (by omega) (.int .i64 ((se : Int) + 1)) { s.T n with read := [], seen := se + 1, vals := updF (s.T n).vals at_ ⟨path, ip, port⟩ } (fun k => by rw [show ({ s.T n with read := [], seen := se + 1, vals := updF (s.T n).vals at_ ⟨path, ip, port⟩ } : TH) = { ({ s.T n with read := [], vals := updF (s.T n).vals at_ ⟨path, ip, port⟩ } : TH) with seen := se + 1 } from rfl, cellT_seen']; rfl))
            have HF2' := hide (HFV.out.trans ((Fr.set (g := g) (gm := gm) lv V (4 + n * 29 + 16) (.string ⟨#[]⟩)).trans (Fr.set lv _ (4 + n * 29 + 15) (.int .i64 ((se : Int) + 1)))))
            have v0 : ((V.setCell ⟨g, 4 + n * 29 + 16, none⟩ (.string ⟨#[]⟩)).setCell ⟨g, 4 + n * 29 + 15, none⟩ (.int .i64 ((se : Int) + 1))).cell? ⟨g, 4 + n * 29, none⟩ = some (.int .i64 2) := by
              have h0 := HV2.out.phase n hn
              rw [T_put] at h0
              simp only [hph] at h0
              exact h0
            have f0 : ((V.setCell ⟨g, 4 + n * 29 + 16, none⟩ (.string ⟨#[]⟩)).setCell ⟨g, 4 + n * 29 + 15, none⟩ (.int .i64 ((se : Int) + 1))).frozen? ⟨g, 4 + n * 29, none⟩ = false := HV2.out.fro _
            clear HI HRD HT HH HAI HCB HQQ HK HQ1 HVR HER HC HD HB2 HR2 HX2 HF2 HXD HV HFV HV1 hka4 hka1 HKA hbyt hkind
            by_cases hsl : se + 1 = L
            · rw [if_pos hsl] at HSL
              have HV3 := hide (HV2.out.setT' 0 hn (by omega) (.int .i64 3) { s.T n with read := [], seen := se + 1, phase := 3, vals := updF (s.T n).vals at_ ⟨path, ip, port⟩ } (fun k => by rw [show ({ s.T n with read := [], seen := se + 1, phase := 3, vals := updF (s.T n).vals at_ ⟨path, ip, port⟩ } : TH) = { ({ s.T n with read := [], seen := se + 1, vals := updF (s.T n).vals at_ ⟨path, ip, port⟩ } : TH) with phase := 3 } from rfl, cellT_phase']; rfl))
              have bq : (((se : Int) + 1) == (L : Int)) = true := by simp; omega
              clear hsl
              go_wp2_with fail
              go_end0
              rw [HSL.out, ← hvv]
              exact ⟨rfl, lv, HV3.out, HF2'.out.trans (Fr.set lv _ _ _)⟩
            · rw [if_neg hsl] at HSL
              have bq : (((se : Int) + 1) == (L : Int)) = false := by simp; omega
              clear hsl
              go_wp2_with fail
              go_end0
              rw [HSL.out, ← hvv]
              refine ⟨rfl, lv, ?_, HF2'.out⟩
              have h9 := HV2.out
              rw [show ({ s.T n with read := [], seen := se + 1, vals := updF (s.T n).vals at_ ⟨path, ip, port⟩ } : TH) = { s.T n with vals := updF (s.T n).vals at_ ⟨path, ip, port⟩, read := [], seen := se + 1, phase := 2 } by simp only [hph]] at h9
              exact h9
end Go.Proofs.YtklibmijiecbfaaGreat

/- sealValue. -/
namespace Go.Proofs.YtklibmijiecbfaaGreat
open Go.RowKit Mm

theorem sealValue_ok {g gm : Nat} {P : PV} {s : WS} {lv : Value} {W : World} (k : Nat) (v : VL) (hv : ValOk k v) (hl : (bytesV k v).length ≤ 64) {q : Nat} (hq : freeQ s.mem = some q) (h : WX g gm P s lv W) :
    Calls Tryz.prog 58 #[.pointer (some ⟨g, 0, none⟩), .int .i64 k, .agg (vlC v)] W fun e w' => e = .returned (.tuple #[.int .u64 ((q * 64 : Nat) : Int), .nilIface]) ∧ WX g gm P { s with mem := sealM s.mem q (bytesV k v) } lv w' ∧ Fr g gm lv lv W w' := by
  have HB := bytesOf_any k v hv (W.alloc (.cells (vlC v) 66))
  have HX := hide (h.on (box_below W (.cells (vlC v) 66)))
  have HS := fun X (hX : WX g gm P s lv X) => mseal_ok hX.mem hq (bs (bytesV k v)) (by rw [bs_size]; exact hl)
  rw [show (bs (bytesV k v)).data.toList = bytesV k v from rfl] at HS
  obtain ⟨B, hB⟩ : ∃ B, B = bytesV k v := ⟨_, rfl⟩
  rw [← hB] at HB HS
  rw [← hB]
  obtain ⟨path, ip, port⟩ := v
  unfold vlC at HB HX ⊢
  obtain ⟨V, hV, hVb, hVs, hVc⟩ := one_box W #[.string path, .int .u32 ip, .int .i64 port] 66
  have c0 := hVc 0
  have c1 := hVc 1
  have c2 := hVc 2
  simp only [List.getElem?_toArray, List.getElem?_cons_zero, List.getElem?_cons_succ] at c0 c1 c2
  simp only at hV HB HX ⊢
  obtain ⟨z, hz⟩ : ∃ z : Int, z = ((q * 64 : Nat) : Int) := ⟨_, rfl⟩
  rw [← hz] at HS
  rw [← hz]
  rw [← hV] at HB HX
  clear h hB hv hl hVc hVs hq hz
  go_enter Tryz.func58, Tryz.ntmps58
  go_wp2_with fail
  rw [← hV]
  refine HB.mono ?_
  rintro e w1 ⟨rfl, hb1⟩
  have HX1 := hide (HX.out.on hb1)
  have HF1 := hide ((Fr.of (g := g) (gm := gm) lv hVb).trans (Fr.of lv hb1))
  have cp := HX1.out.ptr
  clear hb1 HX HB c0 c1 c2
  go_wp2_with fail
  refine (HS w1 HX1.out).mono ?_
  rintro e w2 ⟨rfl, hm, hg⟩
  go_wp2
  go_ret2
  exact ⟨rfl, HX1.out.memo hm hg, HF1.out.trans (Fr.grown lv hg (.inr rfl))⟩
theorem sealValue_full {g gm : Nat} {P : PV} {s : WS} {lv : Value} {W : World} (k : Nat) (v : VL) (hv : ValOk k v) (hl : (bytesV k v).length ≤ 64) (hq : freeQ s.mem = none) (h : WX g gm P s lv W) :
    Calls Tryz.prog 58 #[.pointer (some ⟨g, 0, none⟩), .int .i64 k, .agg (vlC v)] W fun e w' => e = .returned (.tuple #[.int .u64 0, .iface 82 (.int .i64 9)]) ∧ WX g gm P s lv w' ∧ Fr g gm lv lv W w' := by
  have HB := bytesOf_any k v hv (W.alloc (.cells (vlC v) 66))
  have HX := hide (h.on (box_below W (.cells (vlC v) 66)))
  have HS := fun X (hX : WX g gm P s lv X) => mseal_full hX.mem hq (bs (bytesV k v)) (by rw [bs_size]; exact hl)
  obtain ⟨B, hB⟩ : ∃ B, B = bytesV k v := ⟨_, rfl⟩
  rw [← hB] at HB HS
  obtain ⟨path, ip, port⟩ := v
  unfold vlC at HB HX ⊢
  obtain ⟨V, hV, hVb, hVs, hVc⟩ := one_box W #[.string path, .int .u32 ip, .int .i64 port] 66
  have c0 := hVc 0
  have c1 := hVc 1
  have c2 := hVc 2
  simp only [List.getElem?_toArray, List.getElem?_cons_zero, List.getElem?_cons_succ] at c0 c1 c2
  simp only at hV HB HX ⊢
  rw [← hV] at HB HX
  clear h hB hv hl hVc hVs hq
  go_enter Tryz.func58, Tryz.ntmps58
  go_wp2_with fail
  rw [← hV]
  refine HB.mono ?_
  rintro e w1 ⟨rfl, hb1⟩
  have HX1 := hide (HX.out.on hb1)
  have HF1 := hide ((Fr.of (g := g) (gm := gm) lv hVb).trans (Fr.of lv hb1))
  have cp := HX1.out.ptr
  clear hb1 HX HB c0 c1 c2
  go_wp2_with fail
  refine (HS w1 HX1.out).mono ?_
  rintro e w2 ⟨rfl, hm, hg⟩
  go_wp2
  go_ret2
  exact ⟨rfl, HX1.out.memo hm hg, HF1.out.trans (Fr.grown lv hg (.inr rfl))⟩
end Go.Proofs.YtklibmijiecbfaaGreat

/- seal. -/
namespace Go.Proofs.YtklibmijiecbfaaGreat
open Go.RowKit Mm

/-- Behind pointersOf, the ward turning. -/
structure SY (g gm : Nat) (P : PV) (s : WS) (lv : Value) (oa : Option Addr) (l : List Nat) (ka : Array Value) (r6 : Nat) (W X : World) : Prop where
  ward : WX g gm P s lv X
  ints : IsInts W.heap.size oa l X
  box : X.heap[r6]? = some (.cells ka 126 (0, 0))
  bd : W.heap.size ≤ r6
  fr : Fr g gm lv lv W X
theorem SX.y {g gm : Nat} {P : PV} {s : WS} {lv : Value} {oa : Option Addr} {l : List Nat} {ka : Array Value} {r6 : Nat} {W X : World} (h : SX g gm P s lv oa l ka r6 W X) : SY g gm P s lv oa l ka r6 W X := ⟨h.ward, h.ints, h.box, h.bd, Fr.of lv h.fr⟩
theorem SY.step {g gm : Nat} {P : PV} {s s' s0 : WS} {lv : Value} {oa : Option Addr} {l : List Nat} {ka : Array Value} {r6 : Nat} {W X Z : World} (h : SY g gm P s lv oa l ka r6 W X) (h0 : WX g gm P s0 lv W) (hw : WX g gm P s' lv Z) (hf : Fr g gm lv lv X Z) : SY g gm P s' lv oa l ka r6 W Z := by
  have hg := h0.glt
  have hm := h0.mlt
  have hl : ∀ k, W.heap.size ≤ k → lv.ownBlock ≠ some k := fun k hk e => by have := (h0.own.lt k e).2; omega
  have hb := h.bd
  exact ⟨hw, h.ints.heap (fun k h1 h2 => hf.block k h2 (by omega) (by omega) (hl k h1)) hf.size, (hf.block r6 (Array.getElem?_eq_some_iff.1 h.box).1 (by omega) (by omega) (hl r6 hb)).trans h.box, hb, h.fr.trans hf⟩
theorem SY.on {g gm : Nat} {P : PV} {s s0 : WS} {lv : Value} {oa : Option Addr} {l : List Nat} {ka : Array Value} {r6 : Nat} {W X Z : World} (h : SY g gm P s lv oa l ka r6 W X) (h0 : WX g gm P s0 lv W) (hb : Below X.heap.size X Z) : SY g gm P s lv oa l ka r6 W Z := h.step h0 (h.ward.on hb) (Fr.of lv hb)
theorem sealL_some (n i : Nat) (r : List Nat) (s : WS) {q : Nat} (h : freeQ s.mem = some q) : sealL n (i :: r) s = sealL n r ⟨updF s.T n { s.T n with args := updF (s.T n).args i (q * 64), sld := updF (s.T n).sld i true }, sealM s.mem q (bytesV (kindAt (s.T n).call.nr i) ((s.T n).vals i)), s.log⟩ := by
  conv => lhs; rw [sealL]
  rw [h]
theorem sealL_none (n i : Nat) (r : List Nat) (s : WS) (h : freeQ s.mem = none) : sealL n (i :: r) s = endS n 2 12 zeroVS s := by
  rw [sealL, h]
/-- What a thread is in the midst of sealing. -/
structure SM (n : Nat) (nr : Nat) (vals : Nat → VL) (s1 : WS) : Prop where
  nr : (s1.T n).call.nr = nr
  vals : (s1.T n).vals = vals
  log : s1.log.length ≤ 1000000
set_option maxHeartbeats 4000000 in
set_option maxRecDepth 20000 in
theorem seal_any {g gm : Nat} {P : PV} {s : WS} {lv : Value} {W : World} (n : Nat) (hn : n < 3) (hi : Inv P.p s) (hph : (s.T n).phase = 4) (h : WX g gm P s lv W) (hlog : s.log.length ≤ 1000000) :
    Calls Tryz.prog 30 #[.pointer (some ⟨g, 0, none⟩), .int .i64 n] W (Goes g gm P (sealS n s) lv W) := by
  have j1 : (0 : Int) ≤ n := by omega
  have j2 : (n : Int) < 3 := by omega
  have ht := hi.thr n hn
  have hnr := ht.trc (by omega) (by omega)
  have hvok := ht.vok (by omega) (by omega)
  rw [(ht.full (by omega) (by omega)).1, List.take_length] at hvok
  have HP := pts_some (s.T n).call hnr W
  unfold klV klC at HP
  have x1 := h.th n 1 hn (by omega)
  have x2 := h.th n 2 hn (by omega)
  have x3 := h.th n 3 hn (by omega)
  have x4 := h.th n 4 hn (by omega)
  have x5 := h.th n 5 hn (by omega)
  have x6 := h.th n 6 hn (by omega)
  rw [(cellT_call _).1] at x1
  rw [(cellT_call _).2.1] at x2
  rw [(cellT_call _).2.2.1] at x3
  rw [(cellT_call _).2.2.2.1] at x4
  rw [(cellT_call _).2.2.2.2.1] at x5
  rw [(cellT_call _).2.2.2.2.2] at x6
  have HSE := hide (show sealS n s = sealL n (ptsOf (s.T n).call.nr) s from rfl)
  have HVK : Hid (∀ i ∈ ptsOf (s.T n).call.nr, ValOk (kindAt (s.T n).call.nr i) ((s.T n).vals i)) := hide (fun i hi => (hvok i).1 hi)
  obtain ⟨nr, hnr'⟩ : ∃ x, x = (s.T n).call.nr := ⟨_, rfl⟩
  obtain ⟨vals, hvals⟩ : ∃ x, x = (s.T n).vals := ⟨_, rfl⟩
  have HM0 : Hid (SM n nr vals s) := hide ⟨hnr'.symm, hvals.symm, hlog⟩
  rw [← hnr'] at HP HSE HVK x2
  rw [← hvals] at HVK
  obtain ⟨ka, hka⟩ : ∃ k, k = kindsA nr := ⟨_, rfl⟩
  have hka4 : ka.size = 4 := by rw [hka]; rfl
  have hka1 : ka.all (·.oneCell') = true := by rw [hka]; exact kindsA_one _
  have HKA := hide hka
  rw [← hka] at HP
  obtain ⟨pts, hpts⟩ : ∃ l, l = ptsOf nr := ⟨_, rfl⟩
  have HPT := hide hpts
  rw [← hpts] at HP HSE HVK
  obtain ⟨L, hL⟩ : ∃ m, m = pts.length := ⟨_, rfl⟩
  have HL := hide hL
  have hL2 : L ≤ 2 := by rw [hL, hpts]; exact pts_few _
  rw [← hL] at HP
  have HH := hide h
  obtain ⟨G, hG⟩ : ∃ G, G = Goes g gm P (sealS n s) lv W := ⟨_, rfl⟩
  have HG : Hid (∀ lv' e w', e = .returned (.tuple #[]) → WX g gm P (sealL n pts s) lv' w' → Fr g gm lv lv' W w' → G e w') := hide (fun lv' e w' h1 h2 h3 => by rw [hG]; exact ⟨h1, lv', by rw [HSE.out]; exact h2, h3⟩)
  rw [← hG]
  clear h ht hi hka hpts hL hvok hph hlog hnr hnr' hvals hG HSE
  go_enter Tryz.func30, Tryz.ntmps30
  go_wp2_with fail
  refine HP.mono ?_
  rintro e Y ⟨⟨oa, cap, rfl, hcap, hcap2, hints⟩, hY⟩
  have HS := hide (SX.of ka #[.int .i64 0, .int .i64 0, .int .i64 0, .int .i64 0] HH.out hints hY).y
  obtain ⟨X, hX⟩ : ∃ X, X = (Y.alloc (.cells #[.int .i64 0, .int .i64 0, .int .i64 0, .int .i64 0] 126)).setRow Y.heap.size ka := ⟨_, rfl⟩
  rw [← hX] at HS
  clear HP x1 x2 x3 x4 x5 x6 hints
  go_wp2_with (refine wpList_store_row rfl 126 _ _ rfl Y.heap.size ka rfl rfl 126 _ (heap_alloc_new Y _) (by rw [hka4]; exact size_kinds) (by rw [hka4]; rfl) hka1 ?_; rw [← hX]; clear hX)
  obtain ⟨r6, hr6⟩ : ∃ r, r = Y.heap.size := ⟨_, rfl⟩
  rw [← hr6] at HS
  rw [← hr6]
  clear hr6 hY hka4 hka1
  go_loopw [26] (fun I w' => ∃ (i : Nat) (s1 : WS), i ≤ L ∧ I = .int .i64 i ∧ Hid (SY g gm P s1 lv oa pts ka r6 W w') ∧ Hid (SM n nr vals s1) ∧ Hid (sealL n pts s = sealL n (pts.drop i) s1)) (fun I _ => L - (intOf I).toNat)
  case atStart => exact ⟨0, s, by omega, rfl, HS, HM0, hide (by rw [List.drop_zero])⟩
  case round =>
    obtain ⟨i, s1, hi, rfl, HX, HM, HE⟩ := hrel
    clear HS
    by_cases hlt : i < L
    · obtain ⟨at_, hat⟩ : ∃ a, pts[i]? = some a := ⟨_, List.getElem?_eq_getElem (by rw [← HL.out]; exact hlt)⟩
      have hmem := List.mem_of_getElem? hat
      obtain ⟨_, hat4, hkind⟩ := pts_of (show at_ ∈ ptsOf nr by rw [← HPT.out]; exact hmem)
      have HVO := hide (HVK.out at_ hmem)
      have hdrop : pts.drop i = at_ :: pts.drop (i + 1) := by
        rw [List.drop_eq_getElem_cons (by rw [← HL.out]; exact hlt)]
        congr 1
        rw [List.getElem?_eq_getElem (by rw [← HL.out]; exact hlt)] at hat
        exact Option.some.inj hat
      rw [hdrop] at HE
      obtain ⟨b, off, rfl, hbw, hbl, hel⟩ := HX.out.ints.lie (by rw [← HL.out]; omega)
      have y0 := hel i at_ hat
      obtain ⟨k, hk⟩ : ∃ k, k = kindAt nr at_ := ⟨_, rfl⟩
      obtain ⟨⟨path, ip, port⟩, hvv⟩ : ∃ v, v = vals at_ := ⟨_, rfl⟩
      have y1 : wr.cell? ⟨r6, at_, none⟩ = some (.int .i64 (k : Nat)) := by rw [cell_of_row _ _ _ _ _ _ HX.out.box, HKA.out, hk]; exact kindsA_at _ _ hat4
      have hv3 := cellT_val (s1.T n) at_
      rw [HM.out.vals, ← hvv] at hv3
      have y2 : wr.cell? ⟨g, 4 + n * 29 + 17 + at_ * 3, none⟩ = some (.string path) := by rw [show 4 + n * 29 + 17 + at_ * 3 = 4 + n * 29 + (17 + at_ * 3) by omega, HX.out.ward.th n _ hn (by omega), hv3.1]
      have y3 : wr.cell? ⟨g, 4 + n * 29 + 17 + at_ * 3 + 1, none⟩ = some (.int .u32 ip) := by rw [show 4 + n * 29 + 17 + at_ * 3 + 1 = 4 + n * 29 + (17 + at_ * 3 + 1) by omega, HX.out.ward.th n _ hn (by omega), hv3.2.1]
      have y4 : wr.cell? ⟨g, 4 + n * 29 + 17 + at_ * 3 + 2, none⟩ = some (.int .i64 port) := by rw [show 4 + n * 29 + 17 + at_ * 3 + 2 = 4 + n * 29 + (17 + at_ * 3 + 2) by omega, HX.out.ward.th n _ hn (by omega), hv3.2.2]
      have i1 : (0 : Int) ≤ i := by omega
      have i2 : (i : Int) < L := by omega
      have i3 : (0 : Int) ≤ at_ := by omega
      have i4 : (at_ : Int) < 4 := by omega
      have HKK := hide hk
      rw [← hk, ← hvv] at HVO
      rw [← hk] at hkind
      have HVV := hide hvv
      clear hel hat hmem hdrop hv3 hk hvv
      have HD := hide (HX.out.on HH.out (Below.refl _ wr).drew)
      replace y1 : wr.drew.cell? _ = _ := y1
      replace y2 : wr.drew.cell? _ = _ := y2
      replace y3 : wr.drew.cell? _ = _ := y3
      replace y4 : wr.drew.cell? _ = _ := y4
      have hln := bytesV_len HVO.out
      cases hfq : freeQ s1.mem with
      | none => as_aux_lemma =>
        have HSV := sealValue_full k ⟨path, ip, port⟩ HVO.out hln hfq HD.out.ward
        unfold vlC at HSV
        simp only at HSV
        have HZ := hide (show sealL n pts s = endS n 2 12 zeroVS s1 by
          rw [HE.out, sealL_none n at_ _ s1 hfq])
        clear hfq hln
        go_wp2_with fail
        go_region_held3 (fun w' => w'.cell? ⟨r6, at_, none⟩ = some (.int .i64 (k : Nat)) ∧ w'.cell? ⟨g, 4 + n * 29 + 17 + at_ * 3, none⟩ = some (.string path) ∧ w'.cell? ⟨g, 4 + n * 29 + 17 + at_ * 3 + 1, none⟩ = some (.int .u32 ip) ∧ w'.cell? ⟨g, 4 + n * 29 + 17 + at_ * 3 + 2, none⟩ = some (.int .i64 port))
          (first | (with_reducible exact ⟨y1, y2, y3, y4⟩) | (with_reducible exact ⟨r1, r2, r3, r4⟩) | go_keep)
          ((go_at_call 58; refine HSV.mono ?_; rintro e Y2 ⟨rfl, hw, hf⟩; have HY := hide (HD.out.step HH.out hw hf); have r1 : Y2.cell? ⟨r6, at_, none⟩ = some (.int .i64 (k : Nat)) := (by rw [cell_of_row _ _ _ _ _ _ HY.out.box, HKA.out, HKK.out]; exact kindsA_at _ _ hat4); have hv3 := cellT_val (s1.T n) at_; rw [HM.out.vals, ← HVV.out] at hv3; have r2 : Y2.cell? ⟨g, 4 + n * 29 + 17 + at_ * 3, none⟩ = some (.string path) := (by rw [show 4 + n * 29 + 17 + at_ * 3 = 4 + n * 29 + (17 + at_ * 3) by omega, HY.out.ward.th n _ hn (by omega)]; exact congrArg some hv3.1); have r3 : Y2.cell? ⟨g, 4 + n * 29 + 17 + at_ * 3 + 1, none⟩ = some (.int .u32 ip) := (by rw [show 4 + n * 29 + 17 + at_ * 3 + 1 = 4 + n * 29 + (17 + at_ * 3 + 1) by omega, HY.out.ward.th n _ hn (by omega)]; exact congrArg some hv3.2.1); have r4 : Y2.cell? ⟨g, 4 + n * 29 + 17 + at_ * 3 + 2, none⟩ = some (.int .i64 port) := (by rw [show 4 + n * 29 + 17 + at_ * 3 + 2 = 4 + n * 29 + (17 + at_ * 3 + 2) by omega, HY.out.ward.th n _ hn (by omega)]; exact congrArg some hv3.2.2); clear hw hf hv3))
        have HEF := fail_any n hn 9 HY.out.ward HM.out.log
        clear r1 r2 r3 r4 y0 y1 y2 y3 y4 HSV
        go_wp2_with fail
        refine HEF.mono ?_
        rintro e w' hGo
        obtain ⟨rfl, lv', h1, h2⟩ := hGo
        go_wp2
        go_end0
        exact HG.out lv' _ _ rfl (by rw [HZ.out]; exact h1) (HY.out.fr.trans h2)
      | some q => as_aux_lemma =>
        have HSV := sealValue_ok k ⟨path, ip, port⟩ HVO.out hln hfq HD.out.ward
        unfold vlC at HSV
        simp only at HSV
        obtain ⟨z, hz⟩ : ∃ z, z = q * 64 := ⟨_, rfl⟩
        rw [← hz] at HSV
        obtain ⟨sm, hsm⟩ : ∃ x, x = { s1 with mem := sealM s1.mem q (bytesV k ⟨path, ip, port⟩) } := ⟨_, rfl⟩
        rw [← hsm] at HSV
        have HZ := hide (show sealL n pts s = sealL n (pts.drop (i + 1)) (sm.put n { s1.T n with args := updF (s1.T n).args at_ z, sld := updF (s1.T n).sld at_ true }) by
          rw [HE.out, sealL_some n at_ _ s1 hfq, hsm, hz, HM.out.nr, ← HKK.out, show (s1.T n).vals at_ = ⟨path, ip, port⟩ by rw [HM.out.vals, ← HVV.out]]
          rfl)
        have HSM := hide (show sm.T n = s1.T n ∧ SM n nr vals (sm.put n { s1.T n with args := updF (s1.T n).args at_ z, sld := updF (s1.T n).sld at_ true }) by
          rw [hsm]
          exact ⟨rfl, by rw [T_put]; exact HM.out.nr, by rw [T_put]; exact HM.out.vals, HM.out.log⟩)
        clear hfq hln hz hsm
        go_wp2_with fail
        go_region_held3 (fun w' => w'.cell? ⟨r6, at_, none⟩ = some (.int .i64 (k : Nat)) ∧ w'.cell? ⟨g, 4 + n * 29 + 17 + at_ * 3, none⟩ = some (.string path) ∧ w'.cell? ⟨g, 4 + n * 29 + 17 + at_ * 3 + 1, none⟩ = some (.int .u32 ip) ∧ w'.cell? ⟨g, 4 + n * 29 + 17 + at_ * 3 + 2, none⟩ = some (.int .i64 port))
          (first | (with_reducible exact ⟨y1, y2, y3, y4⟩) | (with_reducible exact ⟨r1, r2, r3, r4⟩) | go_keep)
          ((go_at_call 58; refine HSV.mono ?_; rintro e Y2 ⟨rfl, hw, hf⟩; have HY := hide (HD.out.step HH.out hw hf); have r1 : Y2.cell? ⟨r6, at_, none⟩ = some (.int .i64 (k : Nat)) := (by rw [cell_of_row _ _ _ _ _ _ HY.out.box, HKA.out, HKK.out]; exact kindsA_at _ _ hat4); have hv3 := cellT_val (s1.T n) at_; rw [HM.out.vals, ← HVV.out] at hv3; have r2 : Y2.cell? ⟨g, 4 + n * 29 + 17 + at_ * 3, none⟩ = some (.string path) := (by rw [show 4 + n * 29 + 17 + at_ * 3 = 4 + n * 29 + (17 + at_ * 3) by omega, HY.out.ward.th n _ hn (by omega), HSM.out.1]; exact congrArg some hv3.1); have r3 : Y2.cell? ⟨g, 4 + n * 29 + 17 + at_ * 3 + 1, none⟩ = some (.int .u32 ip) := (by rw [show 4 + n * 29 + 17 + at_ * 3 + 1 = 4 + n * 29 + (17 + at_ * 3 + 1) by omega, HY.out.ward.th n _ hn (by omega), HSM.out.1]; exact congrArg some hv3.2.1); have r4 : Y2.cell? ⟨g, 4 + n * 29 + 17 + at_ * 3 + 2, none⟩ = some (.int .i64 port) := (by rw [show 4 + n * 29 + 17 + at_ * 3 + 2 = 4 + n * 29 + (17 + at_ * 3 + 2) by omega, HY.out.ward.th n _ hn (by omega), HSM.out.1]; exact congrArg some hv3.2.2); clear hw hf hv3))
        clear r1 r2 r3 r4 y0 y1 y2 y3 y4 HSV
        have HYD := hide (HY.out.on HH.out (Below.refl _ Y2).drew)
        have a7 : Y2.drew.cell? ⟨g, 4 + n * 29 + 7 + at_, none⟩ = some (.int .u64 ((s1.T n).args at_ : Nat)) := by rw [Nat.add_assoc (4 + n * 29), HYD.out.ward.th n (7 + at_) hn (by omega), cellT_arg _ _ hat4, HSM.out.1]
        have f7 : Y2.drew.frozen? ⟨g, 4 + n * 29 + 7 + at_, none⟩ = false := HYD.out.ward.fro _
        have HA := HYD.out.ward.setT n (7 + at_) hn (by omega) (.int .u64 (z : Nat)) { s1.T n with args := updF (s1.T n).args at_ z } (fun k _ => by rw [cellT_arg' _ _ _ _ hat4, HSM.out.1])
        rw [← Nat.add_assoc (4 + n * 29)] at HA
        replace HA := hide HA
        have a11 : (Y2.drew.setCell ⟨g, 4 + n * 29 + 7 + at_, none⟩ (.int .u64 (z : Nat))).cell? ⟨g, 4 + n * 29 + 11 + at_, none⟩ = some (.bool ((s1.T n).sld at_)) := by
          rw [Nat.add_assoc (4 + n * 29) 11, HA.out.th n (11 + at_) hn (by omega), cellT_sld _ _ hat4, T_put]
        have f11 : (Y2.drew.setCell ⟨g, 4 + n * 29 + 7 + at_, none⟩ (.int .u64 (z : Nat))).frozen? ⟨g, 4 + n * 29 + 11 + at_, none⟩ = false := HA.out.fro _
        have HB := HA.out.setT' (11 + at_) hn (by omega) (.bool true) { s1.T n with args := updF (s1.T n).args at_ z, sld := updF (s1.T n).sld at_ true } (fun k => cellT_sld' { s1.T n with args := updF (s1.T n).args at_ z } at_ k true hat4)
        rw [← Nat.add_assoc (4 + n * 29)] at HB
        replace HB := hide (HYD.out.step HH.out HB ((Fr.set lv _ _ _).trans (Fr.set lv _ _ _)))
        replace a11 : (Y2.setCell ⟨g, 4 + n * 29 + 7 + at_, none⟩ (.int .u64 (z : Nat))).drew.cell? _ = _ := a11
        replace f11 : (Y2.setCell ⟨g, 4 + n * 29 + 7 + at_, none⟩ (.int .u64 (z : Nat))).drew.frozen? _ = _ := f11
        go_wp2_with fail
        refine wp_region_any (by kernel_rfl) ?_
        change wpAny _ _ _ _ _ _ _ (World.drew _)
        refine Gl.wpAny_takeOf 0 (some 50) (Value.pointer (some ⟨g, 4 + n * 29, none⟩)) rfl rfl (by kernel_rfl) (by kernel_rfl) (by kernel_rfl) (fun _ _ _ h => h) (Or.inl ⟨by rfl, ?_⟩) ?_
        · intro wx
          go_simp
        try simp only [Act.put, List.setIfInBounds_toArray, List.set_cons_zero, List.set_cons_succ]
        refine Gl.wpAny_takeOf 1 (some 51) (.int .i64 (at_ : Nat)) rfl rfl (by kernel_rfl) (by kernel_rfl) (by kernel_rfl) (fun _ _ _ h => h) (Or.inl ⟨by rfl, ?_⟩) ?_
        · intro wx
          go_simp
        try simp only [Act.put, List.setIfInBounds_toArray, List.set_cons_zero, List.set_cons_succ]
        refine Gl.wpAny_takeOf 2 (some 52) (Value.pointer (some ⟨g, 4 + n * 29, none⟩)) rfl rfl (by kernel_rfl) (by kernel_rfl) (by kernel_rfl) (fun _ _ _ h => h) (Or.inl ⟨by rfl, ?_⟩) ?_
        · intro wx
          go_simp
        try simp only [Act.put, List.setIfInBounds_toArray, List.set_cons_zero, List.set_cons_succ]
        refine Gl.wpAny_takeOf 3 (some 53) (.int .i64 (at_ : Nat)) rfl rfl (by kernel_rfl) (by kernel_rfl) (by kernel_rfl) (fun _ _ _ h => h) (Or.inl ⟨by rfl, ?_⟩) ?_
        · intro wx
          go_simp
        try simp only [Act.put, List.setIfInBounds_toArray, List.set_cons_zero, List.set_cons_succ]
        refine Gl.wpAny_takeOf 4 (some 54) (.int .u64 (z : Nat)) rfl rfl (by kernel_rfl) (by kernel_rfl) (by kernel_rfl) (fun _ _ _ h => h) (Or.inl ⟨by rfl, ?_⟩) ?_
        · intro wx
          go_simp
        try simp only [Act.put, List.setIfInBounds_toArray, List.set_cons_zero, List.set_cons_succ]
        refine Gl.wpAny_takeOf 5 (some 55) (Value.pointer (some ⟨g, 4 + n * 29, none⟩)) rfl rfl (by kernel_rfl) (by kernel_rfl) (by kernel_rfl) (fun _ _ _ h => h) (Or.inl ⟨by rfl, ?_⟩) ?_
        · intro wx
          go_simp
        try simp only [Act.put, List.setIfInBounds_toArray, List.set_cons_zero, List.set_cons_succ]
        refine Gl.wpAny_takeOf 6 (some 56) (Value.pointer (some ⟨g, 4 + n * 29 + 7, none⟩)) rfl rfl (by kernel_rfl) (by kernel_rfl) (by kernel_rfl) (fun _ _ _ h => h) (Or.inl ⟨by rfl, ?_⟩) ?_
        · intro wx
          go_simp
        try simp only [Act.put, List.setIfInBounds_toArray, List.set_cons_zero, List.set_cons_succ]
        refine Gl.wpAny_takeOf 9 (some 58) (Value.pointer (some ⟨g, 4 + n * 29, none⟩)) rfl rfl (by kernel_rfl) (by kernel_rfl) (by kernel_rfl) (fun _ _ _ h => h) (Or.inl ⟨by rfl, ?_⟩) ?_
        · intro wx
          go_simp
        try simp only [Act.put, List.setIfInBounds_toArray, List.set_cons_zero, List.set_cons_succ]
        refine Gl.wpAny_takeOf 10 (some 59) (Value.pointer (some ⟨g, 4 + n * 29 + 11, none⟩)) rfl rfl (by kernel_rfl) (by kernel_rfl) (by kernel_rfl) (fun _ _ _ h => h) (Or.inl ⟨by rfl, ?_⟩) ?_
        · intro wx
          go_simp
        try simp only [Act.put, List.setIfInBounds_toArray, List.set_cons_zero, List.set_cons_succ]
        refine Gl.wpAny_only (i := 7) (by kernel_rfl) rfl rfl (fun K hK => ?_)
        go_simp
        refine hK _ _ ?_
        clear hK K
        try simp only [Act.put, List.setIfInBounds_toArray, List.set_cons_zero, List.set_cons_succ]
        refine Gl.wpAny_only (i := 8) (by kernel_rfl) rfl rfl (fun K hK => ?_)
        go_simp
        refine hK _ _ ?_
        clear hK K
        try simp only [Act.put, List.setIfInBounds_toArray, List.set_cons_zero, List.set_cons_succ]
        refine Gl.wpAny_only (i := 11) (by kernel_rfl) rfl rfl (fun K hK => ?_)
        go_simp
        refine hK _ _ ?_
        clear hK K
        try simp only [Act.put, List.setIfInBounds_toArray, List.set_cons_zero, List.set_cons_succ]
        refine Gl.wpAny_only (i := 12) (by kernel_rfl) rfl rfl (fun K hK => ?_)
        go_simp
        refine hK _ _ ?_
        clear hK K
        try simp only [Act.put, List.setIfInBounds_toArray, List.set_cons_zero, List.set_cons_succ]
        refine wpAny_done (by kernel_rfl) ?_ _

        go_wp2
        go_round
        case rel => exact ⟨i + 1, _, by omega, by go_num, HB, hide HSM.out.2, HZ⟩
        case measure => simp [intOf]; omega
    · have hnl : ¬ ((i : Int) < (L : Int)) := by omega
      have HZ := hide (show sealL n pts s = s1.put n { s1.T n with phase := 5 } by
        rw [HE.out, List.drop_eq_nil_of_le (by rw [← HL.out]; omega)]
        rfl)
      have HW5 := hide (HX.out.ward.setPhase n 5 hn)
      have HF5 := hide (HX.out.fr.trans (Fr.set lv wr (4 + n * 29) (.int .i64 5)))
      have cp := HX.out.ward.phase n hn
      have fp := HX.out.ward.fro (4 + n * 29)
      clear hlt
      go_wp2
      go_end0
      exact HG.out lv _ _ rfl (by rw [HZ.out]; exact HW5.out) HF5.out
end Go.Proofs.YtklibmijiecbfaaGreat

/- exec. -/
namespace Go.Proofs.YtklibmijiecbfaaGreat
open Go.RowKit Mm

/-- Four values' cells. -/
def cellV (v : Nat → VL) (j : Nat) : Value := if j % 3 = 0 then .string (v (j / 3)).path else if j % 3 = 1 then .int .u32 (v (j / 3)).ip else .int .i64 (v (j / 3)).port
theorem cellV_zero : VA 12 (cellV fun _ => zeroVL) = #[.string ⟨#[]⟩, .int .u32 0, .int .i64 0, .string ⟨#[]⟩, .int .u32 0, .int .i64 0, .string ⟨#[]⟩, .int .u32 0, .int .i64 0, .string ⟨#[]⟩, .int .u32 0, .int .i64 0] := by
  rw [VA_eq]
  rfl
theorem ovr_VA (N g : Nat) (ty : TypeId) : ∀ (l : List Value) (o : Nat) (f : Nat → Value) (W : World), W.heap[g]? = some (.cells (VA N f) ty (0, 0)) → W.setCells g o l = W.setRow g (VA N (ovr f o l))
  | [], o, f, W, h => by
    rw [show ovr f o [] = f by funext i; unfold ovr; rw [if_neg (by simp only [List.length_nil]; omega)]]
    exact (setRow_self W g _ _ _ h).symm
  | x :: r, o, f, W, h => by
    rw [World.setCells, setCell_eq_setRow _ _ _ _ _ _ _ h, VA_set, ovr_VA N g ty r (o + 1) (updV f o x) _ (setRow_heap _ _ _ _ _ _ h), setRow_again _ _ _ _ _ _ h]
    congr 2
    funext i
    unfold ovr updV
    by_cases h1 : i = o
    · subst h1
      rw [if_neg (by omega), if_pos rfl, if_pos (by simp), Nat.sub_self]
      rfl
    · by_cases h2 : o + 1 ≤ i ∧ i < o + 1 + r.length
      · rw [if_pos h2, if_pos (by rw [List.length_cons]; omega), show i - o = (i - (o + 1)) + 1 by omega, List.getD_cons_succ]
      · rw [if_neg h2, if_neg h1, if_neg (by rw [List.length_cons]; omega)]
theorem cellV_set (v : Nat → VL) (i : Nat) (_hi : i < 4) (x : VL) : VA 12 (ovr (cellV v) (i * 3) (vlC x).toList) = VA 12 (cellV (updF v i x)) := by
  refine VA_congr _ _ _ fun j hj => ?_
  unfold ovr
  rw [show (vlC x).toList.length = 3 from rfl]
  by_cases hr : i * 3 ≤ j ∧ j < i * 3 + 3
  · rw [if_pos hr]
    unfold cellV
    rcases show j = i * 3 ∨ j = i * 3 + 1 ∨ j = i * 3 + 2 by omega with rfl | rfl | rfl
    · rw [if_pos (by omega), show i * 3 / 3 = i by omega, updF_same, Nat.sub_self]; rfl
    · rw [if_neg (by omega), if_pos (by omega), show (i * 3 + 1) / 3 = i by omega, updF_same, show i * 3 + 1 - i * 3 = 1 by omega]; rfl
    · rw [if_neg (by omega), if_neg (by omega), show (i * 3 + 2) / 3 = i by omega, updF_same, show i * 3 + 2 - i * 3 = 2 by omega]; rfl
  · rw [if_neg hr]
    unfold cellV
    rw [updF_other _ _ (by omega)]
/-- In the midst of exec. -/
structure EXX (g gm : Nat) (P : PV) (s : WS) (lv : Value) (oa : Option Addr) (l : List Nat) (ka : Array Value) (r6 r7 : Nat) (v : Nat → VL) (W X : World) : Prop where
  sx : SX g gm P s lv oa l ka r6 W X
  vals : X.heap[r7]? = some (.cells (VA 12 (cellV v)) 68 (0, 0))
  bd : W.heap.size ≤ r7
  ne : r7 ≠ r6
  nb : 0 < l.length → ∀ b off, oa = some ⟨b, off, none⟩ → r7 ≠ b
theorem EXX.on {g gm : Nat} {P : PV} {s : WS} {lv : Value} {oa : Option Addr} {l : List Nat} {ka : Array Value} {r6 r7 : Nat} {v : Nat → VL} {W X Z : World} (h : EXX g gm P s lv oa l ka r6 r7 v W X) (hb : Below X.heap.size X Z) : EXX g gm P s lv oa l ka r6 r7 v W Z :=
  ⟨h.sx.on hb, (hb.block _ (Array.getElem?_eq_some_iff.1 h.vals).1).trans h.vals, h.bd, h.ne, h.nb⟩
theorem EXX.start {g gm : Nat} {P : PV} {s : WS} {lv : Value} {oa : Option Addr} {l : List Nat} {ka : Array Value} {r6 : Nat} {W X : World} (h : SX g gm P s lv oa l ka r6 W X) (hb : 0 < l.length → ∀ b off, oa = some ⟨b, off, none⟩ → b < X.heap.size) (c : Array Value) (hc : c = VA 12 (cellV fun _ => zeroVL)) : EXX g gm P s lv oa l ka r6 X.heap.size (fun _ => zeroVL) W (X.alloc (.cells c 68)) := by
  subst hc
  exact ⟨h.on (box_below X _), heap_alloc_new X _, h.fr.size, fun e => by have := (Array.getElem?_eq_some_iff.1 h.box).1; omega, fun h0 b off e hb' => by have := hb h0 b off e; omega⟩
theorem EXX.set {g gm : Nat} {P : PV} {s : WS} {lv : Value} {oa : Option Addr} {l : List Nat} {ka : Array Value} {r6 r7 : Nat} {v : Nat → VL} {W X : World} (h : EXX g gm P s lv oa l ka r6 r7 v W X) (h0 : WX g gm P s lv W) (i : Nat) (hi : i < 4) (x : VL) : EXX g gm P s lv oa l ka r6 r7 (updF v i x) W (X.setCells r7 (i * 3) (vlC x).toList) := by
  rw [ovr_VA 12 r7 68 _ _ _ X h.vals, cellV_set v i hi x]
  have hg := h0.glt
  have hm := h0.mlt
  have hb := h.bd
  have hl : lv.ownBlock ≠ some r7 := fun e => by have := (h0.own.lt _ e).2; omega
  have hgr := setRow_grown X r7 (VA 12 (cellV (updF v i x)))
  have ho : ∀ k, k ≠ r7 → (X.setRow r7 (VA 12 (cellV (updF v i x)))).heap[k]? = X.heap[k]? := fun k hk => row_heap X _ k _ hk
  refine ⟨⟨h.sx.ward.other hgr (by omega) (by omega) hl (Nat.le_trans h0.bd hb), ?_, (ho _ (Ne.symm h.ne)).trans h.sx.box, h.sx.bd, below_setRow h.sx.fr hb _⟩, setRow_heap _ _ _ _ _ _ h.vals, hb, h.ne, h.nb⟩
  refine ⟨fun h0 => ?_⟩
  obtain ⟨b, off, h1, h2, h3, h4⟩ := h.sx.ints.lie h0
  exact ⟨b, off, h1, h2, by rw [row_size]; exact h3, fun j y hj => by rw [cell_heap (ho b (Ne.symm (h.nb h0 b off h1)))]; exact h4 j y hj⟩
theorem entA_done (x0 x1 x2 x3 : VL) : entA ((1 : Nat) : Int) 0 zeroKL ⟨x0, x1, x2, x3⟩ 0 = #[.int .i64 1, .int .i64 0, .int .u32 0, .int .u32 0, .int .u64 0, .int .u64 0, .int .u64 0, .int .u64 0, .string x0.path, .int .u32 x0.ip, .int .i64 x0.port, .string x1.path, .int .u32 x1.ip, .int .i64 x1.port, .string x2.path, .int .u32 x2.ip, .int .i64 x2.port, .string x3.path, .int .u32 x3.ip, .int .i64 x3.port, .int .i64 0] := rfl
theorem exec_nocall {g gm : Nat} {P : PV} {s : WS} {lv : Value} {W : World} (n : Nat) (hn : n < 3) (h8 : 8 < (s.T n).call.nr) (h : WX g gm P s lv W) (hlog : s.log.length ≤ 1000000) :
    Calls Tryz.prog 31 #[.pointer (some ⟨g, 0, none⟩), .int .i64 n] W (Goes g gm P (execS n s) lv W) := by
  have j1 : (0 : Int) ≤ n := by omega
  have j2 : (n : Int) < 3 := by omega
  have HI := isCall_any (s.T n).call W
  rw [decide_eq_false (show ¬ (s.T n).call.nr < 9 by omega)] at HI
  unfold klV klC at HI
  have x1 := h.th n 1 hn (by omega)
  have x2 := h.th n 2 hn (by omega)
  have x3 := h.th n 3 hn (by omega)
  have x4 := h.th n 4 hn (by omega)
  have x5 := h.th n 5 hn (by omega)
  have x6 := h.th n 6 hn (by omega)
  rw [(cellT_call _).1] at x1
  rw [(cellT_call _).2.1] at x2
  rw [(cellT_call _).2.2.1] at x3
  rw [(cellT_call _).2.2.2.1] at x4
  rw [(cellT_call _).2.2.2.2.1] at x5
  rw [(cellT_call _).2.2.2.2.2] at x6
  have HH := hide h
  have HZ := hide (show execS n s = endS n 2 38 zeroVS s by unfold execS; rw [if_pos h8])
  clear h h8
  go_enter Tryz.func31, Tryz.ntmps31
  go_wp2_with fail
  refine HI.mono ?_
  rintro e Y ⟨rfl, hY⟩
  have HE := refuse_any n hn 38 (HH.out.on hY) hlog
  clear x1 x2 x3 x4 x5 x6
  go_wp2_with fail
  refine HE.mono ?_
  rintro e w' hG
  obtain ⟨rfl, h1⟩ := hG
  go_wp2
  go_end0
  rw [HZ.out]
  exact Goes.from hY ⟨rfl, h1⟩
set_option maxHeartbeats 4000000 in
set_option maxRecDepth 20000 in
theorem exec_call {g gm : Nat} {P : PV} {s : WS} {lv : Value} {W : World} (n : Nat) (hn : n < 3) (hnr : (s.T n).call.nr ≤ 8) (har : ∀ i, (s.T n).args i < 18446744073709551616) (hbyt : ∀ x, s.mem.byte x < 256) (h : WX g gm P s lv W) (hlog : s.log.length ≤ 1000000) :
    Calls Tryz.prog 31 #[.pointer (some ⟨g, 0, none⟩), .int .i64 n] W (Goes g gm P (execS n s) lv W) := by
  have j1 : (0 : Int) ≤ n := by omega
  have j2 : (n : Int) < 3 := by omega
  have HI := isCall_any (s.T n).call W
  rw [decide_eq_true (show (s.T n).call.nr < 9 by omega)] at HI
  have HP := fun X => pts_some (s.T n).call hnr X
  unfold klV klC at HI HP
  have x1 := h.th n 1 hn (by omega)
  have x2 := h.th n 2 hn (by omega)
  have x3 := h.th n 3 hn (by omega)
  have x4 := h.th n 4 hn (by omega)
  have x5 := h.th n 5 hn (by omega)
  have x6 := h.th n 6 hn (by omega)
  rw [(cellT_call _).1] at x1
  rw [(cellT_call _).2.1] at x2
  rw [(cellT_call _).2.2.1] at x3
  rw [(cellT_call _).2.2.2.1] at x4
  rw [(cellT_call _).2.2.2.2.1] at x5
  rw [(cellT_call _).2.2.2.2.2] at x6
  have HSE := hide (show execS n s = execL n s (ptsOf (s.T n).call.nr) fun _ => zeroVL by unfold execS; rw [if_neg (by omega)])
  obtain ⟨nr, hnr'⟩ : ∃ x, x = (s.T n).call.nr := ⟨_, rfl⟩
  have HNR := hide hnr'
  rw [← hnr'] at HI HP HSE x2
  obtain ⟨ka, hka⟩ : ∃ k, k = kindsA nr := ⟨_, rfl⟩
  have hka4 : ka.size = 4 := by rw [hka]; rfl
  have hka1 : ka.all (·.oneCell') = true := by rw [hka]; exact kindsA_one _
  have HKA := hide hka
  simp only [← hka] at HP
  obtain ⟨pts, hpts⟩ : ∃ l, l = ptsOf nr := ⟨_, rfl⟩
  have HPT := hide hpts
  simp only [← hpts] at HP HSE
  obtain ⟨L, hL⟩ : ∃ m, m = pts.length := ⟨_, rfl⟩
  have HL := hide hL
  have hL2 : L ≤ 2 := by rw [hL, hpts]; exact pts_few _
  simp only [← hL] at HP
  have HH := hide h
  have HAR := hide har
  have HBY := hide hbyt
  obtain ⟨G, hG⟩ : ∃ G, G = Goes g gm P (execS n s) lv W := ⟨_, rfl⟩
  have HG : Hid (∀ lv' e w', e = .returned (.tuple #[]) → WX g gm P (execL n s pts fun _ => zeroVL) lv' w' → Fr g gm lv lv' W w' → G e w') := hide (fun lv' e w' h1 h2 h3 => by rw [hG]; exact ⟨h1, lv', by rw [HSE.out]; exact h2, h3⟩)
  rw [← hG]
  clear h hka hpts hL hnr hnr' hG HSE har hbyt
  go_enter Tryz.func31, Tryz.ntmps31
  go_wp2_with fail
  refine HI.mono ?_
  rintro e Y0 ⟨rfl, hY0⟩
  have HH0 := hide (HH.out.on hY0)
  have HB0 := hide hY0
  replace x1 := keep_cell hY0 x1
  replace x2 := keep_cell hY0 x2
  replace x3 := keep_cell hY0 x3
  replace x4 := keep_cell hY0 x4
  replace x5 := keep_cell hY0 x5
  replace x6 := keep_cell hY0 x6
  clear hY0 HI
  go_wp2_with fail
  refine (HP Y0).mono ?_
  rintro e Y ⟨⟨oa, cap, rfl, hcap, hcap2, hints⟩, hY⟩
  have HS := hide (SX.of ka #[.int .i64 0, .int .i64 0, .int .i64 0, .int .i64 0] HH.out (hints.weak HB0.out.size) (below_next HB0.out hY))
  obtain ⟨X, hX⟩ : ∃ X, X = (Y.alloc (.cells #[.int .i64 0, .int .i64 0, .int .i64 0, .int .i64 0] 126)).setRow Y.heap.size ka := ⟨_, rfl⟩
  rw [← hX] at HS
  have hob : 0 < L → ∀ b off, oa = some ⟨b, off, none⟩ → b < X.heap.size := fun h0 b off e => by
    obtain ⟨b', off', h1, h2, h3, h4⟩ := HS.out.ints.lie (by rw [← HL.out]; exact h0)
    rw [h1] at e
    simp only [Option.some.injEq, Addr.mk.injEq] at e
    omega
  have HOB : Hid (0 < pts.length → ∀ b off, oa = some ⟨b, off, none⟩ → b < X.heap.size) := hide (by rw [← HL.out]; exact hob)
  clear HP x1 x2 x3 x4 x5 x6 hints hob
  go_wp2_with (refine wpList_store_row rfl 126 _ _ rfl Y.heap.size ka rfl rfl 126 _ (heap_alloc_new Y _) (by rw [hka4]; exact size_kinds) (by rw [hka4]; rfl) hka1 ?_; rw [← hX]; clear hX)
  have HE0 := hide (EXX.start HS.out HOB.out _ cellV_zero.symm)
  obtain ⟨r6, hr6⟩ : ∃ r, r = Y.heap.size := ⟨_, rfl⟩
  obtain ⟨r7, hr7⟩ : ∃ r, r = X.heap.size := ⟨_, rfl⟩
  rw [← hr6, ← hr7] at HE0
  rw [← hr6, ← hr7]
  clear hr6 hr7 hY hka4 hka1 HS HOB HB0 HH0
  go_loopw [36] (fun I w' => ∃ (i : Nat) (v : Nat → VL), i ≤ L ∧ I = .int .i64 i ∧ Hid (EXX g gm P s lv oa pts ka r6 r7 v W w') ∧ Hid (execL n s pts (fun _ => zeroVL) = execL n s (pts.drop i) v)) (fun I _ => L - (intOf I).toNat)
  case atStart => exact ⟨0, _, by omega, rfl, HE0, hide (by rw [List.drop_zero])⟩
  case round =>
    obtain ⟨i, v, hi, rfl, HX, HE⟩ := hrel
    clear HE0
    by_cases hlt : i < L
    · obtain ⟨at_, hat⟩ : ∃ a, pts[i]? = some a := ⟨_, List.getElem?_eq_getElem (by rw [← HL.out]; exact hlt)⟩
      have hmem := List.mem_of_getElem? hat
      obtain ⟨_, hat4, hkind⟩ := pts_of (show at_ ∈ ptsOf nr by rw [← HPT.out]; exact hmem)
      have hdrop : pts.drop i = at_ :: pts.drop (i + 1) := by
        rw [List.drop_eq_getElem_cons (by rw [← HL.out]; exact hlt)]
        congr 1
        rw [List.getElem?_eq_getElem (by rw [← HL.out]; exact hlt)] at hat
        exact Option.some.inj hat
      rw [hdrop] at HE
      obtain ⟨b, off, rfl, hbw, hbl, hel⟩ := HX.out.sx.ints.lie (by rw [← HL.out]; omega)
      have y0 := hel i at_ hat
      obtain ⟨k, hk⟩ : ∃ k, k = kindAt nr at_ := ⟨_, rfl⟩
      obtain ⟨ar, har⟩ : ∃ x, x = (s.T n).args at_ := ⟨_, rfl⟩
      have y1 : wr.cell? ⟨r6, at_, none⟩ = some (.int .i64 (k : Nat)) := by rw [cell_of_row _ _ _ _ _ _ HX.out.sx.box, HKA.out, hk]; exact kindsA_at _ _ hat4
      have y2 : wr.cell? ⟨g, 4 + n * 29 + 7 + at_, none⟩ = some (.int .u64 (ar : Nat)) := by rw [Nat.add_assoc (4 + n * 29), HX.out.sx.ward.th n (7 + at_) hn (by omega), cellT_arg _ _ hat4, har]
      have i1 : (0 : Int) ≤ i := by omega
      have i2 : (i : Int) < L := by omega
      have i3 : (0 : Int) ≤ at_ := by omega
      have i4 : (at_ : Int) < 4 := by omega
      rw [← hk] at hkind
      have hal : ar < 18446744073709551616 := by rw [har]; exact HAR.out at_
      have HFV := fun X (hX : WX g gm P s lv X) => follow_any k ar hkind hal HBY.out hX
      have HFF := hide (show execL n s pts (fun _ => zeroVL) = if (followV s.mem k ar).2 = 0 then execL n s (pts.drop (i + 1)) (updF v at_ (followV s.mem k ar).1) else endS n 2 (errnoN (followV s.mem k ar).2 : Nat) zeroVS s by
        rw [HE.out]
        conv => lhs; rw [execL]
        rw [← HNR.out, ← hk, ← har, followF_V _ _ _ hkind]
        by_cases h0 : (followV s.mem k ar).2 = 0
        · rw [if_pos h0, if_pos h0]
        · rw [if_neg h0, if_neg h0])
      obtain ⟨⟨⟨path, ip, port⟩, f⟩, hvr⟩ : ∃ v, v = followV s.mem k ar := ⟨_, rfl⟩
      simp only [← hvr] at HFV HFF
      unfold vlC at HFV
      simp only at HFV
      obtain ⟨er, her⟩ : ∃ e, e = errV f := ⟨_, rfl⟩
      simp only [← her] at HFV
      have HER := hide her
      have HF1 := HFV wr.drew (HX.out.sx.ward.on (Below.refl _ _).drew)
      have HF2 := HFV (wr.alloc (.cells #[.string ⟨#[]⟩, .int .u32 0, .int .i64 0] 66)).drew ((HX.out.sx.ward.on (box_below wr _)).on (Below.refl _ _).drew)
      have hgZ : g ≠ wr.heap.size := Nat.ne_of_lt HX.out.sx.ward.glt
      have hrZ : r6 ≠ wr.heap.size := Nat.ne_of_lt (Array.getElem?_eq_some_iff.1 HX.out.sx.box).1
      have zb : (wr.alloc (.cells #[.string ⟨#[]⟩, .int .u32 0, .int .i64 0] 66)).drew.heap[wr.heap.size]? = some (.cells #[.string ⟨#[]⟩, .int .u32 0, .int .i64 0] 66 (0, 0)) := heap_alloc_new wr _
      have x1 := keep_cell (box_below wr (.cells #[.string ⟨#[]⟩, .int .u32 0, .int .i64 0] 66)) y1
      have x2 := keep_cell (box_below wr (.cells #[.string ⟨#[]⟩, .int .u32 0, .int .i64 0] 66)) y2
      replace y1 : wr.drew.cell? _ = _ := y1
      replace y2 : wr.drew.cell? _ = _ := y2
      replace x1 : (wr.alloc (.cells #[.string ⟨#[]⟩, .int .u32 0, .int .i64 0] 66)).drew.cell? _ = _ := x1
      replace x2 : (wr.alloc (.cells #[.string ⟨#[]⟩, .int .u32 0, .int .i64 0] 66)).drew.cell? _ = _ := x2
      clear hel hat hmem hdrop hk har hvr her HFV hal hkind
      go_wp2_with fail
      go_cut [10, 11] from 37 to 63 (fun S E w2 => E = er ∧ ∃ r10 : Nat, S = .pointer (some ⟨r10, 0, none⟩) ∧ Hid (Below wr.heap.size wr w2) ∧ Hid (w2.heap[r10]? = some (.cells #[.string path, .int .u32 ip, .int .i64 port] 66 (0, 0))))
      case first => as_aux_lemma =>
        go_region_held3 (fun w' => w'.cell? ⟨r6, at_, none⟩ = some (.int .i64 (k : Nat)) ∧ w'.cell? ⟨g, 4 + n * 29 + 7 + at_, none⟩ = some (.int .u64 (ar : Nat)))
          (first | (with_reducible exact ⟨y1, y2⟩) | (with_reducible exact ⟨x1, x2⟩) | (with_reducible exact ⟨r1, r2⟩) | (with_reducible exact ⟨keep_cell (box_below wr.drew _) y1, keep_cell (box_below wr.drew _) y2⟩) | (with_reducible exact ⟨keep_cell (box_below Y2 _) r1, keep_cell (box_below Y2 _) r2⟩) | (with_reducible exact ⟨keepv hrZ r1, keepv hgZ r2⟩) | go_keep)
          ((first
            | (go_at_call 61; with_reducible refine HF1.mono ?_; rintro e Y2 ⟨rfl, hY2⟩; have HB := hide (below_next (Below.refl _ wr).drew hY2); have r1 := keep_cell hY2 y1; have r2 := keep_cell hY2 y2; clear hY2)
            | (go_at_call 61; refine HF2.mono ?_; rintro e Y2 ⟨rfl, hY2⟩; have HB := hide (below_next (box_below wr (.cells #[.string ⟨#[]⟩, .int .u32 0, .int .i64 0] 66)).drew hY2); have r1 := keep_cell hY2 x1; have r2 := keep_cell hY2 x2; have uh := (hY2.block wr.heap.size (by show _ < (wr.alloc _).heap.size; rw [World.size_alloc]; exact Nat.lt_succ_self _)).trans zb; obtain ⟨⟨p0, p1, p2⟩, g0, g1, g2⟩ := lrow_cells uh; clear hY2)))
        all_goals
          go_wp2_with fail
          go_meet
          case rel => first
            | with_reducible exact ⟨rfl, Y2.heap.size, rfl, hide (below_next HB.out (box_below _ _)), hide (heap_alloc_new _ _)⟩
            | exact ⟨rfl, wr.heap.size, rfl, hide (by rw [lset3 uh]; exact below_setRow HB.out (Nat.le_refl _) _), hide (by rw [lset3 uh]; exact setRow_heap _ _ _ _ _ _ uh)⟩
      case rest =>
        obtain ⟨rfl, r10, rfl, HB2, HR2⟩ := hcut
        clear y0 y1 y2 x1 x2 zb HF1 HF2
        have HX2 := hide (HX.out.on HB2.out)
        by_cases hf0 : f = 0
        · rw [if_pos hf0] at HFF
          have hu := HER.out
          rw [hf0, errV_zero] at hu
          subst hu
          have r0 : wc.cell? ⟨r10, 0, none⟩ = some (.string path) := cell_of_row _ _ 0 _ _ _ HR2.out
          have r1 : wc.cell? ⟨r10, 1, none⟩ = some (.int .u32 ip) := cell_of_row _ _ 1 _ _ _ HR2.out
          have r2 : wc.cell? ⟨r10, 2, none⟩ = some (.int .i64 port) := cell_of_row _ _ 2 _ _ _ HR2.out
          have HX3 := hide (HX2.out.set HH.out at_ hat4 ⟨path, ip, port⟩)
          unfold vlC at HX3
          simp only at HX3
          clear hf0
          go_wp2_with (refine wpList_store_mid (P := Tryz.prog) rfl 66 _ _ rfl r7 (at_ * 3) #[.string path, .int .u32 ip, .int .i64 port] (by go_simp) rfl (by intro j hj; exact ⟨by rw [cell_of_row _ _ _ _ _ _ HX2.out.vals, VA_get _ _ _ (by have h3 : j < 3 := hj; omega)]; rfl, frozen_of_row _ _ _ _ _ HX2.out.vals⟩) size_vl (by simp [Value.oneCell']) ?_)
          go_round
          case rel => exact ⟨i + 1, _, by omega, by go_num, HX3, HFF⟩
          case measure => simp [intOf]; omega
        · rw [if_neg hf0] at HFF
          have hu := HER.out
          rw [errV_pos hf0] at hu
          subst hu
          have HEF := fail_any n hn f HX2.out.sx.ward hlog
          clear hf0
          go_wp2_with fail
          refine HEF.mono ?_
          rintro e w' hGo
          obtain ⟨rfl, lv', h1, h2⟩ := hGo
          go_wp2
          go_end0
          exact HG.out lv' _ _ rfl (by rw [HFF.out]; exact h1) ((Fr.of lv HX2.out.sx.fr).trans h2)
    · have hnl : ¬ ((i : Int) < (L : Int)) := by omega
      have HZ := hide (show execL n s pts (fun _ => zeroVL) = endS n 1 0 (vsOf v) s by
        rw [HE.out, List.drop_eq_nil_of_le (by rw [← HL.out]; omega)]
        rfl)
      have HEN := wend_any n hn 1 0 (vsOf v) HX.out.sx.ward hlog
      have hv := fun j (hj : j < 12) => (cell_of_row _ _ j _ _ _ HX.out.vals).trans (VA_get _ _ _ hj)
      have v0 : wr.cell? ⟨r7, 0, none⟩ = some (.string (v 0).path) := hv 0 (by omega)
      have v1 : wr.cell? ⟨r7, 1, none⟩ = some (.int .u32 (v 0).ip) := hv 1 (by omega)
      have v2 : wr.cell? ⟨r7, 2, none⟩ = some (.int .i64 (v 0).port) := hv 2 (by omega)
      have v3 : wr.cell? ⟨r7, 3, none⟩ = some (.string (v 1).path) := hv 3 (by omega)
      have v4 : wr.cell? ⟨r7, 4, none⟩ = some (.int .u32 (v 1).ip) := hv 4 (by omega)
      have v5 : wr.cell? ⟨r7, 5, none⟩ = some (.int .i64 (v 1).port) := hv 5 (by omega)
      have v6 : wr.cell? ⟨r7, 6, none⟩ = some (.string (v 2).path) := hv 6 (by omega)
      have v7 : wr.cell? ⟨r7, 7, none⟩ = some (.int .u32 (v 2).ip) := hv 7 (by omega)
      have v8 : wr.cell? ⟨r7, 8, none⟩ = some (.int .i64 (v 2).port) := hv 8 (by omega)
      have v9 : wr.cell? ⟨r7, 9, none⟩ = some (.string (v 3).path) := hv 9 (by omega)
      have v10 : wr.cell? ⟨r7, 10, none⟩ = some (.int .u32 (v 3).ip) := hv 10 (by omega)
      have v11 : wr.cell? ⟨r7, 11, none⟩ = some (.int .i64 (v 3).port) := hv 11 (by omega)
      unfold vsOf at HEN
      rw [entA_done] at HEN
      clear hlt hv
      go_wp2_with fail
      refine HEN.mono ?_
      rintro e w' ⟨rfl, lv', h1, h2⟩
      go_wp2
      go_end0
      exact HG.out lv' _ _ rfl (by rw [HZ.out]; exact h1) ((Fr.of lv HX.out.sx.fr).trans h2)
theorem exec_any {g gm : Nat} {P : PV} {s : WS} {lv : Value} {W : World} (n : Nat) (hn : n < 3) (hi : Inv P.p s) (_hph : (s.T n).phase = 5) (h : WX g gm P s lv W) (hlog : s.log.length ≤ 1000000) :
    Calls Tryz.prog 31 #[.pointer (some ⟨g, 0, none⟩), .int .i64 n] W (Goes g gm P (execS n s) lv W) := by
  by_cases h8 : 8 < (s.T n).call.nr
  · exact exec_nocall n hn h8 h hlog
  · exact exec_call n hn (by omega) (hi.thr n hn).ar hi.mem.fine.bytes h hlog
end Go.Proofs.YtklibmijiecbfaaGreat

/- Step of any thread, Enter of any: what they make of a ward. -/
namespace Go.Proofs.YtklibmijiecbfaaGreat
open Go.RowKit Mm

/-- What a step of a thread does to the world. -/
def GoesS (g gm : Nat) (P : PV) (r : WS × Bool × Nat) (lv : Value) (W : World) (e : Ending) (w' : World) : Prop := e = .returned (.tuple #[.bool r.2.1, errV r.2.2]) ∧ ∃ lv', WX g gm P r.1 lv' w' ∧ Fr g gm lv lv' W w'
theorem wstep_any {g gm : Nat} {P : PV} {s : WS} {lv : Value} {W : World} (n : Int) (hp : polF P.p = 0) (hi : Inv P.p s) (h : WX g gm P s lv W) (hlog : s.log.length ≤ 1000000) :
    Calls Tryz.prog 15 #[.pointer (some ⟨g, 0, none⟩), .int .i64 n] W (GoesS g gm P (stepW P.p n s) lv W) := by
  by_cases hn : 0 ≤ n ∧ n < 3
  · obtain ⟨k, rfl⟩ : ∃ k : Nat, n = k := ⟨n.toNat, by omega⟩
    have hk : k < 3 := by omega
    have ht := hi.thr k hk
    have hs : stepW P.p k s = if (s.T k).phase = 6 then (s, false, 8) else if (s.T k).phase = 0 then (s, false, 0) else (stepS P.p k s, true, 0) := by
      unfold stepW
      rw [if_pos hn, Int.toNat_natCast]
    rw [hs]
    have go : ∀ (ph : Nat), (s.T k).phase = ph → ph ≠ 6 → ph ≠ 0 → (Calls Tryz.prog 15 #[.pointer (some ⟨g, 0, none⟩), .int .i64 k] W fun e w' => e = .returned (.tuple #[.bool true, .nilIface]) ∧ ∃ lv', WX g gm P (stepS P.p k s) lv' w' ∧ Fr g gm lv lv' W w') →
        Calls Tryz.prog 15 #[.pointer (some ⟨g, 0, none⟩), .int .i64 k] W (GoesS g gm P (if (s.T k).phase = 6 then (s, false, 8) else if (s.T k).phase = 0 then (s, false, 0) else (stepS P.p k s, true, 0)) lv W) := by
      intro ph h0 h6 h00 hc
      rw [if_neg (by omega), if_neg (by omega)]
      exact hc
    rcases seven ht.ph with h0 | h0 | h0 | h0 | h0 | h0 | h0
    · rw [if_neg (by omega), if_pos h0]
      exact (step_idle k hk h0 h).mono fun e w' ⟨he, hw⟩ => ⟨he, lv, by rw [hw]; exact h, by rw [hw]; exact Fr.refl _ _ _ _⟩
    · refine go 1 h0 (by omega) (by omega) ?_
      rw [show stepS P.p k s = filterS P.p k s by unfold stepS; simp only [h0]]
      exact step_1 k hk h0 h ((filter_any k hk hp ht.kl h hlog).mono fun e w' hg => hg)
    · refine go 2 h0 (by omega) (by omega) ?_
      rw [show stepS P.p k s = snapS k s by unfold stepS; simp only [h0]]
      exact step_2 k hk h0 h ((snap_any k hk hi h0 h hlog).mono fun e w' hg => hg)
    · refine go 3 h0 (by omega) (by omega) ?_
      rw [show stepS P.p k s = judgeS P.p k s by unfold stepS; simp only [h0]]
      exact step_3 k hk h0 h ((wjudge_any k hk hp ht.kl (ht.vok (by omega) (by omega)).vs h hlog).mono fun e w' hg => hg)
    · refine go 4 h0 (by omega) (by omega) ?_
      rw [show stepS P.p k s = sealS k s by unfold stepS; simp only [h0]]
      exact step_4 k hk h0 h ((seal_any k hk hi h0 h hlog).mono fun e w' hg => hg)
    · refine go 5 h0 (by omega) (by omega) ?_
      rw [show stepS P.p k s = execS k s by unfold stepS; simp only [h0]]
      exact step_5 k hk h0 h ((exec_any k hk hi h0 h hlog).mono fun e w' hg => hg)
    · rw [if_pos h0]
      have hf : aliveF k s = 8 := by unfold aliveF; rw [if_pos hn, Int.toNat_natCast, if_pos h0]
      have hc := step_err (k : Int) (by rw [hf]; omega) h
      rw [hf] at hc
      exact hc.mono fun e w' ⟨he, hw⟩ => ⟨he, lv, by rw [hw]; exact h, by rw [hw]; exact Fr.refl _ _ _ _⟩
  · have hs : stepW P.p n s = (s, false, 1) := by unfold stepW; rw [if_neg hn]
    have hf : aliveF n s = 1 := by unfold aliveF; rw [if_neg hn]
    rw [hs]
    have hc := step_err n (by rw [hf]; omega) h
    rw [hf] at hc
    exact hc.mono fun e w' ⟨he, hw⟩ => ⟨he, lv, by rw [hw]; exact h, by rw [hw]; exact Fr.refl _ _ _ _⟩
theorem wenter_any {g gm : Nat} {P : PV} {s : WS} {lv : Value} {W : World} (n : Int) (c : KL) (h : WX g gm P s lv W) :
    Calls Tryz.prog 14 #[.pointer (some ⟨g, 0, none⟩), .int .i64 n, klV c] W fun e w' => e = .returned (errV (enterW n c s).2) ∧ WX g gm P (enterW n c s).1 lv w' ∧ Fr g gm lv lv W w' := by
  by_cases hn : 0 ≤ n ∧ n < 3
  · obtain ⟨k, rfl⟩ : ∃ k : Nat, n = k := ⟨n.toNat, by omega⟩
    have hk : k < 3 := by omega
    have hs : enterW k c s = if (s.T k).phase = 6 then (s, 8) else if (s.T k).phase = 0 then (s.put k (enterT c), 0) else (s, 7) := by
      unfold enterW
      rw [if_pos hn, Int.toNat_natCast]
    rw [hs]
    by_cases h6 : (s.T k).phase = 6
    · rw [if_pos h6]
      have hf : aliveF k s = 8 := by unfold aliveF; rw [if_pos hn, Int.toNat_natCast, if_pos h6]
      have hc := wenter_err (k : Int) c (by rw [hf]; omega) h
      rw [hf] at hc
      exact hc.mono fun e w' ⟨he, hb⟩ => ⟨he, h.on hb, Fr.of lv hb⟩
    · rw [if_neg h6]
      by_cases h0 : (s.T k).phase = 0
      · rw [if_pos h0]
        exact wenter_ok k hk c h0 h
      · rw [if_neg h0]
        exact (wenter_busy k hk c h0 h6 h).mono fun e w' ⟨he, hb⟩ => ⟨he, h.on hb, Fr.of lv hb⟩
  · have hs : enterW n c s = (s, 1) := by unfold enterW; rw [if_neg hn]
    have hf : aliveF n s = 1 := by unfold aliveF; rw [if_neg hn]
    rw [hs]
    have hc := wenter_err n c (by rw [hf]; omega) h
    rw [hf] at hc
    exact hc.mono fun e w' ⟨he, hb⟩ => ⟨he, h.on hb, Fr.of lv hb⟩
end Go.Proofs.YtklibmijiecbfaaGreat

/- The document's Step and Enter of any thread, beside the code's. -/
namespace Go.Proofs.YtklibmijiecbfaaGreat
open Go.RowKit Mm

theorem seals_ok {p : POL} {t : TH} {u : DT} (hT : TOk p t) (ht : Tie t u) : SealOk u :=
  ⟨by rw [ht.seals]; unfold sealsOf; rw [List.length_map]; exact Nat.le_trans (List.length_filter_le _ _) (by simp), fun x hx => by
    rw [ht.seals] at hx
    unfold sealsOf at hx
    obtain ⟨i, _, rfl⟩ := List.mem_map.1 hx
    exact hT.ar i⟩
/-- What Step of the document's ward comes to, beside the code's. -/
def DGoesS (g : Nat) (P : PV) (r : WS × Bool × Nat) (sv : Nat → Value) (lv : Value) (W : World) (e : Ending) (w' : World) : Prop := e = .returned (.tuple #[.bool r.2.1, .int .i64 (r.2.2 : Nat)]) ∧ ∃ d' sv' lv', TieW r.1 d' ∧ DX g P d' sv' lv' w' ∧ DFr g sv lv sv' lv' W w'
theorem dstep_any {g : Nat} {P : PV} {d : DWS} {sv : Nat → Value} {lv : Value} {W : World} {s : WS} (n : Int) (hp : polF P.p = 0) (hok : PolOk P.p) (hi : Inv P.p s) (ht : TieW s d) (h : DX g P d sv lv W) (hlog : d.log.length ≤ 1000000) :
    Calls Tryz.prog 38 #[.pointer (some ⟨g, 0, none⟩), .int .i64 n] W (DGoesS g P (stepW P.p n s) sv lv W) := by
  by_cases hn : 0 ≤ n ∧ n < 3
  · obtain ⟨k, rfl⟩ : ∃ k : Nat, n = k := ⟨n.toNat, by omega⟩
    have hk : k < 3 := by omega
    have hT := hi.thr k hk
    have hu := ht.thr k hk
    have hph := hu.phase
    have hso := seals_ok hT hu
    have hts := tie_step hp hi ht hk
    have hs : stepW P.p k s = if (s.T k).phase = 6 then (s, false, 8) else if (s.T k).phase = 0 then (s, false, 0) else (stepS P.p k s, true, 0) := by
      unfold stepW
      rw [if_pos hn, Int.toNat_natCast]
    rw [hs]
    have go : ∀ (ph : Nat), (s.T k).phase = ph → ph ≠ 6 → ph ≠ 0 → (Calls Tryz.prog 38 #[.pointer (some ⟨g, 0, none⟩), .int .i64 k] W fun e w' => e = .returned (.tuple #[.bool true, .int .i64 0]) ∧ ∃ sv' lv', DX g P (dstepS P.p k d) sv' lv' w' ∧ DFr g sv lv sv' lv' W w') →
        Calls Tryz.prog 38 #[.pointer (some ⟨g, 0, none⟩), .int .i64 k] W (DGoesS g P (if (s.T k).phase = 6 then (s, false, 8) else if (s.T k).phase = 0 then (s, false, 0) else (stepS P.p k s, true, 0)) sv lv W) := by
      intro ph h0 h6 h00 hc
      rw [if_neg (by omega), if_neg (by omega)]
      exact hc.mono fun e w' ⟨he, sv', lv', h1, h2⟩ => ⟨he, dstepS P.p k d, sv', lv', hts, h1, h2⟩
    rcases seven hT.ph with h0 | h0 | h0 | h0 | h0 | h0 | h0
    · rw [if_neg (by omega), if_pos h0]
      exact (dstep_idle k hk (hph.trans h0) h).mono fun e w' ⟨he, hw⟩ => ⟨he, d, sv, lv, ht, by rw [hw]; exact h, by rw [hw]; exact DFr.refl _ _ _ _⟩
    · refine go 1 h0 (by omega) (by omega) ?_
      rw [show dstepS P.p k d = dfilter P.p k d by unfold dstepS; simp only [hph, h0]]
      have hent := hT.ent h0
      refine (dstep_1 k hk hp hok (by rw [hu.call]; exact hT.kl) (hph.trans h0) (fun i h4 => ?_) h hlog hso).mono fun e w' hg => hg
      rw [hu.now i h4, hu.call, hent]
      rfl
    · refine go 2 h0 (by omega) (by omega) ?_
      rw [show dstepS P.p k d = dsnap k d by unfold dstepS; simp only [hph, h0]]
      have h8 := hT.trc (by omega) (by omega)
      obtain ⟨hseen, hrd⟩ := hT.snap h0
      obtain ⟨ha1, ha2, _⟩ := hu.arg h0
      have hm : ptAt (s.T k) ∈ ptsOf (s.T k).call.nr := by
        unfold ptAt
        rw [List.getD_eq_getElem?_getD, List.getElem?_eq_getElem hseen]
        exact List.getElem_mem hseen
      obtain ⟨_, hat4, hkind⟩ := pts_of hm
      refine dstep_2 k hk (hph.trans h0) h ((dsnap_any k hk (by rw [hu.call]; exact h8) (by rw [ha1]; exact hat4) (by rw [hu.call, ha1]; exact hkind) (by
        rw [ha1, ha2]
        rcases hkind with h2 | h3
        · exact (hrd.2 (by omega)).1
        · have := hrd.1 h3; omega) (by rw [ht.mem]; exact hi.mem.fine.bytes) h hlog hso).mono fun e w' hg => hg)
    · refine go 3 h0 (by omega) (by omega) ?_
      rw [show dstepS P.p k d = ddone k (decideR P.p (d.T k).asked (vsOf (d.T k).vals)) 4 d by unfold dstepS; simp only [hph, h0]]
      exact (dstep_3 k hk hp hok (by rw [hu.call]; exact hT.kl) (by rw [hu.vals]; exact (hT.vok (by omega) (by omega)).vs) (hph.trans h0) h hlog hso).mono fun e w' hg => hg
    · refine go 4 h0 (by omega) (by omega) ?_
      rw [show dstepS P.p k d = dsealL k (ptsOf (d.T k).asked.nr) d by unfold dstepS; simp only [hph, h0]]
      have h8 := hT.trc (by omega) (by omega)
      have hpl := (hT.plain (by omega)).1
      refine dstep_4 k hk (hph.trans h0) h ((dseal_any k hk (by rw [hu.call]; exact h8) (fun j _ hj hk2 => ?_) ?_ h hlog).mono fun e w' hg => hg)
      · rw [hu.call] at hk2 ⊢
        rw [hu.vals]
        have := ((hT.vok (by omega) (by omega)) j).1
        rw [(hT.full (by omega) (by omega)).1, List.take_length] at this
        exact this (pts_mem h8 hj hk2)
      · rw [hu.seals]
        unfold sealsOf
        rw [show (fun i => (s.T k).sld i) = fun _ => false from funext hpl]
        simp
    · refine go 5 h0 (by omega) (by omega) ?_
      rw [show dstepS P.p k d = dexec k d by unfold dstepS; simp only [hph, h0]]
      have hkl := hT.kl
      have hnow : ∀ i, i < 4 → (d.T k).now i < 18446744073709551616 := fun i h4 => by rw [hu.now i h4]; exact hT.ar i
      refine dstep_5 k hk (hph.trans h0) h ((dexec_any k hk ⟨by show (d.T k).asked.arch < _; rw [hu.call]; exact hkl.arch, by show (d.T k).asked.nr < _; rw [hu.call]; exact hkl.nr, hnow 0 (by omega), hnow 1 (by omega), hnow 2 (by omega), hnow 3 (by omega)⟩ h hlog hso).mono fun e w' hg => hg)
    · rw [if_pos h0]
      exact (dstep_dead k hk (hph.trans h0) h).mono fun e w' ⟨he, hw⟩ => ⟨he, d, sv, lv, ht, by rw [hw]; exact h, by rw [hw]; exact DFr.refl _ _ _ _⟩
  · have hs : stepW P.p n s = (s, false, 1) := by unfold stepW; rw [if_neg hn]
    rw [hs]
    exact (dstep_bad g n hn).mono fun e w' ⟨he, hw⟩ => ⟨he, d, sv, lv, ht, by rw [hw]; exact h, by rw [hw]; exact DFr.refl _ _ _ _⟩
theorem denter_any {g : Nat} {P : PV} {d : DWS} {sv : Nat → Value} {lv : Value} {W : World} {s : WS} (n : Int) (c : KL) (ht : TieW s d) (h : DX g P d sv lv W) :
    Calls Tryz.prog 37 #[.pointer (some ⟨g, 0, none⟩), .int .i64 n, klV c] W fun e w' => e = .returned (.int .i64 ((enterW n c s).2 : Nat)) ∧ ∃ d' sv', TieW (enterW n c s).1 d' ∧ DX g P d' sv' lv w' ∧ DFr g sv lv sv' lv W w' := by
  by_cases hn : 0 ≤ n ∧ n < 3
  · obtain ⟨k, rfl⟩ : ∃ k : Nat, n = k := ⟨n.toNat, by omega⟩
    have hk : k < 3 := by omega
    have hph := (ht.thr k hk).phase
    have hs : enterW k c s = if (s.T k).phase = 6 then (s, 8) else if (s.T k).phase = 0 then (s.put k (enterT c), 0) else (s, 7) := by
      unfold enterW
      rw [if_pos hn, Int.toNat_natCast]
    rw [hs]
    by_cases h6 : (s.T k).phase = 6
    · rw [if_pos h6]
      exact (denter_dead k hk c (hph.trans h6) h).mono fun e w' ⟨he, hb⟩ => ⟨he, d, sv, ht, h.on hb, DFr.of sv lv hb⟩
    · rw [if_neg h6]
      by_cases h0 : (s.T k).phase = 0
      · rw [if_pos h0]
        exact (denter_ok k hk c (hph.trans h0) h).mono fun e w' ⟨he, sv', h1, h2⟩ => ⟨he, _, sv', ht.put k (tie_enter c), h1, h2⟩
      · rw [if_neg h0]
        exact (denter_busy k hk c (by rw [hph]; exact h0) (by rw [hph]; exact h6) h).mono fun e w' ⟨he, hb⟩ => ⟨he, d, sv, ht, h.on hb, DFr.of sv lv hb⟩
  · have hs : enterW n c s = (s, 1) := by unfold enterW; rw [if_neg hn]
    rw [hs]
    exact (denter_bad g n c hn).mono fun e w' ⟨he, hb⟩ => ⟨he, d, sv, ht, h.on hb, DFr.of sv lv hb⟩
theorem TieW.memo {s : WS} {d : DWS} (h : TieW s d) (m : MS) : TieW { s with mem := m } { d with mem := m } := ⟨h.thr, rfl, h.log⟩
end Go.Proofs.YtklibmijiecbfaaGreat

/- did: an act on a ward. -/
namespace Go.Proofs.YtklibmijiecbfaaGreat
open Go.RowKit Mm

/-- An act's cells. -/
def acC (x : AC) : Array Value := #[.string x.kind, .int .i64 x.n, .int .u64 x.a, .string x.s, .bool x.wr, .int .u32 x.c0, .int .u32 x.c1, .int .u64 x.c2, .int .u64 x.c3, .int .u64 x.c4, .int .u64 x.c5]
def acA (x : AC) (k : KL) : Array Value := #[.string x.kind, .int .i64 x.n, .int .u64 x.a, .string x.s, .bool x.wr, .int .u32 k.arch, .int .u32 k.nr, .int .u64 k.a0, .int .u64 k.a1, .int .u64 k.a2, .int .u64 k.a3]
theorem acC_kl {x : AC} (h : x.callOk) : acC x = acA x (kcall x) := by
  obtain ⟨h0, h1, h2, h3, h4, h5⟩ := h
  unfold acC acA kcall
  simp only
  rw [Int.toNat_of_nonneg h0.1, Int.toNat_of_nonneg h1.1, Int.toNat_of_nonneg h2.1, Int.toNat_of_nonneg h3.1, Int.toNat_of_nonneg h4.1, Int.toNat_of_nonneg h5.1]
theorem kcall_ok {x : AC} (h : x.callOk) : KlOk (kcall x) := by
  obtain ⟨h0, h1, h2, h3, h4, h5⟩ := h
  unfold kcall
  exact ⟨by show x.c0.toNat < _; omega, by show x.c1.toNat < _; omega, by show x.c2.toNat < _; omega, by show x.c3.toNat < _; omega, by show x.c4.toNat < _; omega, by show x.c5.toNat < _; omega⟩
end Go.Proofs.YtklibmijiecbfaaGreat
