/- The document's snap. -/
import Derived.Test.YtklibmijiecbfaaGreatK29
import Derived.Test.YtklibmijiecbfaaGreatK20
namespace Go.Proofs.YtklibmijiecbfaaGreat
open Go.RowKit Mm

theorem DX.setP {g : Nat} {P : PV} {d : DWS} {sv : Nat → Value} {lv : Value} {W : World} {n : Nat} {t0 : DT} (h : DX g P (d.put n t0) sv lv W) (j : Nat) (hn : n < 3) (hj : j < 31) (v : Value) (t : DT) (hs : t.seals = t0.seals) (hc : ∀ k, k < 31 → cellDT t (sv n) k = if k = j then v else cellDT t0 (sv n) k) : DX g P (d.put n t) sv lv (W.setCell ⟨g, 783 + n * 31 + j, none⟩ v) := by
 have h1 := h.setT n j hn hj v t (by rw [T_dput]; exact hs) (fun k hk => by rw [T_dput]; exact hc k hk)
 rw [dput_dput] at h1
 exact h1
theorem DX.setA {g : Nat} {P : PV} {d : DWS} {sv : Nat → Value} {lv : Value} {W : World} (h : DX g P d sv lv W) (n j : Nat) (hn : n < 3) (hj : j < 31) (o : Nat) (ho : o = 783 + n * 31 + j) (v : Value) (t : DT) (hs : t.seals = (d.T n).seals) (hc : ∀ k, k < 31 → cellDT t (sv n) k = if k = j then v else cellDT (d.T n) (sv n) k) : DX g P (d.put n t) sv lv (W.setCell ⟨g, o, none⟩ v) := by
 subst ho
 exact h.setT n j hn hj v t hs hc
theorem DX.setPA {g : Nat} {P : PV} {d : DWS} {sv : Nat → Value} {lv : Value} {W : World} {n : Nat} {t0 : DT} (h : DX g P (d.put n t0) sv lv W) (j : Nat) (hn : n < 3) (hj : j < 31) (o : Nat) (ho : o = 783 + n * 31 + j) (v : Value) (t : DT) (hs : t.seals = t0.seals) (hc : ∀ k, k < 31 → cellDT t (sv n) k = if k = j then v else cellDT t0 (sv n) k) : DX g P (d.put n t) sv lv (W.setCell ⟨g, o, none⟩ v) := by
 subst ho
 exact h.setP j hn hj v t hs hc
theorem dend_dput {d : DWS} {n : Nat} {t : DT} (hs : t.seals = (d.T n).seals) (ha : t.asked = (d.T n).asked) (kind : Nat) (errno : Int) (v : VS) : dend n kind errno v (d.put n t) = dend n kind errno v d := by
 rw [dend_eq, dend_eq, T_dput, hs, ha]
 unfold DWS.put
 simp only [updF_again]
set_option maxHeartbeats 2000000 in
set_option maxRecDepth 20000 in
theorem dsnap_any {g : Nat} {P : PV} {d : DWS} {sv : Nat → Value} {lv : Value} {W : World} (n : Nat) (hn : n < 3) (h8 : (d.T n).asked.nr ≤ 8) (har0 : (d.T n).arg < 4) (hkind : kindAt (d.T n).asked.nr (d.T n).arg = 2 ∨ kindAt (d.T n).asked.nr (d.T n).arg = 3) (hlen0 : ((d.T n).texts (d.T n).arg).length ≤ 40) (hbyt : ∀ x, d.mem.byte x < 256) (h : DX g P d sv lv W) (hlog : d.log.length ≤ 1000000) (hs64 : SealOk (d.T n)) :
  Calls Tryz.prog 68 #[.pointer (some ⟨g, 0, none⟩), .int .i64 n] W (DGoes g P (dsnap n d) sv lv W) := by
 have j0 : ¬ (n : Int) < 0 := by omega
 have j1 : (0 : Int) ≤ n := by omega
 have j2 : ¬ (2 : Int) < n := by omega
 have j3 : (n : Int) < 3 := by omega
 obtain ⟨ar, har2⟩ : ∃ a, a = (d.T n).arg := ⟨_, rfl⟩
 obtain ⟨nr, hnr⟩ : ∃ a, a = (d.T n).asked.nr := ⟨_, rfl⟩
 obtain ⟨rd, hrd⟩ : ∃ l, l = (d.T n).texts ar := ⟨_, rfl⟩
 obtain ⟨q, hq⟩ : ∃ x, x = bs rd := ⟨_, rfl⟩
 obtain ⟨ax, hax⟩ : ∃ x, x = (d.T n).now ar := ⟨_, rfl⟩
 obtain ⟨kd, hkd⟩ : ∃ x, x = kindAt nr ar := ⟨_, rfl⟩
 have har : ar < 4 := by rw [har2]; exact har0
 have hlen : rd.length ≤ 40 := by rw [hrd, har2]; exact hlen0
 rw [← hnr, ← har2, ← hkd] at hkind
 rw [← hnr] at h8
 have qs : q.size = rd.length := by rw [hq, bs_size]
 have k1 : (0 : Int) ≤ ar := by omega
 have k2 : (ar : Int) < 4 := by omega
 have HH := hide h
 have y1 : W.cell? ⟨g, 783 + n * 31 + 17, none⟩ = some (.int .i64 (ar : Nat)) := by rw [h.th n 17 hn (by omega), har2]; rfl
 have y2 : W.cell? ⟨g, 783 + n * 31 + 13 + ar, none⟩ = some (.string q) := by rw [Nat.add_assoc (783 + n * 31), h.th n (13 + ar) hn (by omega), cellDT_text _ _ _ har, hq, hrd]
 have y3 : W.cell? ⟨g, 783 + n * 31 + 9 + ar, none⟩ = some (.int .u64 (ax : Nat)) := by rw [Nat.add_assoc (783 + n * 31), h.th n (9 + ar) hn (by omega), cellDT_now _ _ _ har, hax]
 have y4 : W.cell? ⟨g, 783 + n * 31 + 8, none⟩ = some (.int .u32 (nr : Nat)) := by rw [h.th n 8 hn (by omega), hnr]; rfl
 obtain ⟨pk, hpk⟩ : ∃ x, x = peek d.mem (addrI ax rd.length) := ⟨_, rfl⟩
 have HB := fun X (hX : Below W.heap.size W X) => (show Calls Tryz.prog 74 #[.pointer (some ⟨g, 3, none⟩), .int .u64 ((addrI ax rd.length : Nat) : Int)] X fun e w' => e = .returned (rbyteV (peek d.mem (addrI ax rd.length))) ∧ w' = X from Vr.dbyte_any (h.mem.on hX) (addrI ax rd.length) (Nat.mod_lt _ (by decide)))
 rw [← hpk] at HB
 have hwr : IntKind.wrap .u64 ((ax : Int) + IntKind.wrap .u64 (q.size : Int)) = ((addrI ax rd.length : Nat) : Int) := by
  rw [qs]
  unfold addrI
  rw [IntKind.wrap_u64, IntKind.wrap_u64]
  omega
 obtain ⟨ai, hai⟩ : ∃ x : Nat, x = addrI ax rd.length := ⟨_, rfl⟩
 have HK := fun w => dkind_any nr ar (by omega) har w
 rw [← hkd] at HK
 have w1 : IntKind.wrap .i64 (nr : Int) = nr := by rw [IntKind.wrap_i64] <;> omega
 have HSP := hide (show dsnap n d = pk.elim (dend n 2 14 zeroVS d) (fun b => if kd = 2 then (if b = 0 then dfurther n { d.T n with vals := updF (d.T n).vals ar ⟨q, ((d.T n).vals ar).ip, ((d.T n).vals ar).port⟩ } d else if rd.length = 40 then dend n 2 36 zeroVS d else d.put n { d.T n with texts := updF (d.T n).texts ar (rd ++ [UInt8.ofNat b]) })
   else if (rd ++ [UInt8.ofNat b]).length < 16 then d.put n { d.T n with texts := updF (d.T n).texts ar (rd ++ [UInt8.ofNat b]) }
   else match readR (bs (rd ++ [UInt8.ofNat b])) with
    | none => dend n 2 22 zeroVS d
    | some x => dfurther n { d.T n with texts := updF (d.T n).texts ar (rd ++ [UInt8.ofNat b]), vals := updF (d.T n).vals ar ⟨((d.T n).vals ar).path, x.1, x.2⟩ } d) by
  rw [hpk, hkd, hnr, hq, hrd, hax, har2]
  unfold dsnap addrI
  simp only
  cases peek d.mem (((d.T n).now (d.T n).arg + ((d.T n).texts (d.T n).arg).length) % 18446744073709551616) <;> rfl)
 have HPK := hide hpk
 rw [← hai] at HB hwr
 have HQ := hide hq
 have HHB := hide hbyt
 have HN := hide hnr
 have HQS := hide qs
 have HAR := hide har2
 clear h har2 hrd hax hkd hpk hai har0 hlen0 hq hbyt hnr qs
 go_enter Tryz.func68, Tryz.ntmps68
 go_wp2_with fail
 go_quiet (fail)
 obtain ⟨X1, hX1⟩ : ∃ X, X = W.drewN nq := ⟨_, rfl⟩
 have hb1 : Below W.heap.size W X1 := by rw [hX1]; exact below_drewN (Below.refl _ _) _
 replace y1 : X1.cell? ⟨g, 783 + n * 31 + 17, none⟩ = some (.int .i64 (ar : Nat)) := by rw [hX1]; exact y1
 replace y3 : X1.cell? ⟨g, 783 + n * 31 + 9 + ar, none⟩ = some (.int .u64 (ax : Nat)) := by rw [hX1]; exact y3
 replace y4 : X1.cell? ⟨g, 783 + n * 31 + 8, none⟩ = some (.int .u32 (nr : Nat)) := by rw [hX1]; exact y4
 have HB2 := fun m => HB (X1.drewN m) (below_drewN hb1 _)
 rw [← hX1]
 have HB1 := hide hb1
 clear hX1 nq y2 HB hb1
 cases pk with
 | none => as_aux_lemma =>
  unfold rbyteV at HB2
  simp only [Option.elim] at HB2 HSP
  go_wp2_with fail
  go_quiet ((go_at_call 74; exact Calls.quiet_of_same (HB2 _)))
  obtain ⟨Z, hZ⟩ : ∃ Z, Z = X1.drewN nq := ⟨_, rfl⟩
  have hbz : Below W.heap.size W Z := by rw [hZ]; exact below_drewN HB1.out _
  have HZ := hide (HH.out.on hbz)
  have HFZ := hide (DFr.of (g := g) sv lv hbz)
  rw [← hZ]
  clear hZ hbz HB2 y1 y3 y4
  have HE := dend2 n hn 14 HZ.out hlog hs64
  go_wp2_with fail
  refine HE.mono ?_
  rintro e w' hG
  obtain ⟨rfl, h1⟩ := DGoes.from HFZ.out hG
  clear hG
  go_wp2
  go_end0
  rw [HSP.out]
  exact ⟨rfl, h1⟩
 | some bt => as_aux_lemma =>
  unfold rbyteV at HB2
  simp only [Option.elim] at HB2 HSP
  have hb256 : bt < 256 := by
   have h1 := HPK.out
   unfold peek at h1
   split at h1
   ·
    rw [Option.some.inj h1]; exact HHB.out _
   ·
    cases h1
  go_wp2_with fail
  go_quiet ((go_at_call 74; exact Calls.quiet_of_same (HB2 _)))
  obtain ⟨Z, hZ⟩ : ∃ Z, Z = X1.drewN nq := ⟨_, rfl⟩
  have hbz : Below W.heap.size W Z := by rw [hZ]; exact below_drewN HB1.out _
  have z1 : Z.cell? ⟨g, 783 + n * 31 + 17, none⟩ = some (.int .i64 (ar : Nat)) := by rw [hZ]; exact y1
  have z4 : Z.cell? ⟨g, 783 + n * 31 + 8, none⟩ = some (.int .u32 (nr : Nat)) := by rw [hZ]; exact y4
  rw [← hZ]
  clear hZ HB2 y1 y3 y4 nq
  rcases hkind with hk2 | hk3
  ·
   as_aux_lemma =>
   have b2 : ((kd : Int) == 2) = true := by simpa using (show (kd : Int) = 2 by omega)
   rw [if_pos hk2] at HSP
   clear hk2
   go_wp2_with fail
   go_quiet ((go_at_call 44; exact Calls.quiet_of_same (HK _)))
   obtain ⟨Y, hY⟩ : ∃ Y, Y = Z.drewN nq := ⟨_, rfl⟩
   have hby : Below W.heap.size W Y := by rw [hY]; exact below_drewN hbz _
   have HZ := hide (HH.out.on hby)
   have HFZ := hide (DFr.of (g := g) sv lv hby)
   rw [← hY]
   clear hY hbz hby z1 z4 nq HK w1 hwr
   have HZD := hide (HZ.out.on (Below.refl _ _).drew)
   have HFD := hide (HFZ.out.trans (DFr.of sv lv (Below.refl _ _).drew))
   by_cases hb0 : bt = 0
   ·
    as_aux_lemma =>
    have b0 : ((bt : Int) == 0) = true := by simpa using (show (bt : Int) = 0 by omega)
    rw [if_pos hb0] at HSP
    clear hb0
    have u17 : Y.drew.cell? ⟨g, 783 + n * 31 + 17, none⟩ = some (.int .i64 (ar : Nat)) := by rw [HZD.out.th n 17 hn (by omega), HAR.out]; rfl
    have u18 : Y.drew.cell? ⟨g, 783 + n * 31 + 18 + ar * 3, none⟩ = some (.string ((d.T n).vals ar).path) := by rw [Nat.add_assoc (783 + n * 31), HZD.out.th n (18 + ar * 3) hn (by omega), (cellDT_val _ _ _ har).1]
    have f18 := HZD.out.fro (783 + n * 31 + 18 + ar * 3)
    have HW7 := hide (And.intro (HZD.out.setA n (18 + ar * 3) hn (by omega) (783 + n * 31 + 18 + ar * 3) (by omega) (.string q) { d.T n with vals := updF (d.T n).vals ar ⟨q, ((d.T n).vals ar).ip, ((d.T n).vals ar).port⟩ } rfl (fun j hj => cellDT_path' _ _ _ _ har j hj)) (HFD.out.trans (DFr.set (g := g) sv lv Y.drew (783 + n * 31 + 18 + ar * 3) (.string q))))
    go_wp2_with fail
    refine wp_region_any (by kernel_rfl) ?_
    change wpAny _ _ _ _ _ _ _ (World.drew _)
    refine Gl.wpAny_takeOf 0 (some 66) (Value.pointer (some ⟨g, 783 + n * 31, none⟩)) rfl rfl (by kernel_rfl) (by kernel_rfl) (by kernel_rfl) (fun _ _ _ h => h) (Or.inl ⟨by rfl, ?_⟩) ?_
    ·
     intro wx
     go_simp
    try simp only [Act.put, LT1, LT2, LT3]
    refine Gl.wpAny_takeOf 1 (some 67) (Value.pointer (some ⟨g, 783 + n * 31, none⟩)) rfl rfl (by kernel_rfl) (by kernel_rfl) (by kernel_rfl) (fun _ _ _ h => h) (Or.inl ⟨by rfl, ?_⟩) ?_
    ·
     intro wx
     go_simp
    try simp only [Act.put, LT1, LT2, LT3]
    refine Gl.wpAny_takeOf 2 (some 68) (Value.pointer (some ⟨g, 783 + n * 31, none⟩)) rfl rfl (by kernel_rfl) (by kernel_rfl) (by kernel_rfl) (fun _ _ _ h => h) (Or.inl ⟨by rfl, ?_⟩) ?_
    ·
     intro wx
     go_simp
    try simp only [Act.put, LT1, LT2, LT3]
    refine Gl.wpAny_takeOf 3 (some 69) (Value.pointer (some ⟨g, 783 + n * 31 + 17, none⟩)) rfl rfl (by kernel_rfl) (by kernel_rfl) (by kernel_rfl) (fun _ _ _ h => h) (Or.inl ⟨by rfl, ?_⟩) ?_
    ·
     intro wx
     go_simp
    try simp only [Act.put, LT1, LT2, LT3]
    refine Gl.wpAny_takeOf 5 (some 71) (.string q) rfl rfl (by kernel_rfl) (by kernel_rfl) (by kernel_rfl) (fun _ _ _ h => h) (Or.inl ⟨by rfl, ?_⟩) ?_
    ·
     intro wx
     go_simp
    try simp only [Act.put, LT1, LT2, LT3]
    refine Gl.wpAny_takeOf 6 (some 72) (Value.pointer (some ⟨g, 783 + n * 31, none⟩)) rfl rfl (by kernel_rfl) (by kernel_rfl) (by kernel_rfl) (fun _ _ _ h => h) (Or.inl ⟨by rfl, ?_⟩) ?_
    ·
     intro wx
     go_simp
    try simp only [Act.put, LT1, LT2, LT3]
    refine Gl.wpAny_takeOf 7 (some 73) (Value.pointer (some ⟨g, 783 + n * 31 + 18, none⟩)) rfl rfl (by kernel_rfl) (by kernel_rfl) (by kernel_rfl) (fun _ _ _ h => h) (Or.inl ⟨by rfl, ?_⟩) ?_
    ·
     intro wx
     go_simp
    try simp only [Act.put, LT1, LT2, LT3]
    refine Gl.wpAny_only (i := 4) (by kernel_rfl) rfl rfl (fun K hK => ?_)
    go_simp
    refine hK _ _ ?_
    clear hK K
    try simp only [Act.put, LT1, LT2, LT3]
    refine Gl.wpAny_only (i := 8) (by kernel_rfl) rfl rfl (fun K hK => ?_)
    go_simp
    refine hK _ _ ?_
    clear hK K
    try simp only [Act.put, LT1, LT2, LT3]
    refine Gl.wpAny_only (i := 9) (by kernel_rfl) rfl rfl (fun K hK => ?_)
    go_simp
    refine hK _ _ ?_
    clear hK K
    try simp only [Act.put, LT1, LT2, LT3]
    refine Gl.wpAny_only (i := 10) (by kernel_rfl) rfl rfl (fun K hK => ?_)
    go_simp
    refine hK _ _ ?_
    clear hK K
    try simp only [Act.put, LT1, LT2, LT3]
    refine wpAny_done (by kernel_rfl) ?_ _
    have HV := HW7
    have HFU := dfurther_any n hn (by rw [T_dput]; show (d.T n).asked.nr ≤ 8; rw [← HN.out]; exact h8) (by rw [T_dput]; show (d.T n).arg < 4; rw [← HAR.out]; exact har) HV.out.1
    rw [T_dput] at HFU
    rw [show dfurther n { d.T n with vals := updF (d.T n).vals ar ⟨q, ((d.T n).vals ar).ip, ((d.T n).vals ar).port⟩ } (d.put n { d.T n with vals := updF (d.T n).vals ar ⟨q, ((d.T n).vals ar).ip, ((d.T n).vals ar).port⟩ }) = dfurther n { d.T n with vals := updF (d.T n).vals ar ⟨q, ((d.T n).vals ar).ip, ((d.T n).vals ar).port⟩ } d from dput_dput _ _ _ _] at HFU
    go_wp2_with fail
    refine HFU.mono ?_
    rintro e w' hG
    obtain ⟨rfl, h1⟩ := DGoes.from HV.out.2 hG
    clear hG
    go_wp2
    go_end0
    rw [HSP.out]
    exact ⟨rfl, h1⟩
   ·
    have b0 : ((bt : Int) == 0) = false := by simpa using (show ¬ (bt : Int) = 0 by omega)
    rw [if_neg hb0] at HSP
    clear hb0
    by_cases h40 : rd.length = 40
    ·
     as_aux_lemma =>
     have b40 : ((q.size : Int) == 40) = true := by simpa using (show (q.size : Int) = 40 by have := HQS.out; omega)
     rw [if_pos h40] at HSP
     clear h40
     have HE := dend2 n hn 36 HZ.out hlog hs64
     go_wp2_with fail
     refine HE.mono ?_
     rintro e w' hG
     obtain ⟨rfl, h1⟩ := DGoes.from HFZ.out hG
     clear hG
     go_wp2
     go_end0
     rw [HSP.out]
     exact ⟨rfl, h1⟩
    ·
     as_aux_lemma =>
     have b40 : ((q.size : Int) == 40) = false := by simpa using (show ¬ (q.size : Int) = 40 by have := HQS.out; omega)
     rw [if_neg h40] at HSP
     clear h40
     obtain ⟨l1, hl1⟩ : ∃ l, l = rd ++ [UInt8.ofNat bt] := ⟨_, rfl⟩
     rw [← hl1] at HSP
     obtain ⟨cb, hcb⟩ : ∃ c, c = bs [UInt8.ofNat bt] := ⟨_, rfl⟩
     have HQQ := hide (show bs l1 = q ++ cb by rw [hcb, HQ.out, hl1, bs_append])
     have hcat : ¬ 9223372036854775807 < q.size + cb.size := by rw [hcb, bs_size]; simp only [List.length_singleton]; have := HQS.out; omega
     have u17 : Y.drew.cell? ⟨g, 783 + n * 31 + 17, none⟩ = some (.int .i64 (ar : Nat)) := by rw [HZD.out.th n 17 hn (by omega), HAR.out]; rfl
     have hA := (HZ.out.on (box_below Y (.cells #[.int .u8 (bt : Nat)] 5))).on (Below.refl _ _).drew
     have v17 : (Y.alloc (.cells #[.int .u8 (bt : Nat)] 5)).drew.cell? ⟨g, 783 + n * 31 + 17, none⟩ = some (.int .i64 (ar : Nat)) := by rw [hA.th n 17 hn (by omega), HAR.out]; rfl
     have v13 : (Y.alloc (.cells #[.int .u8 (bt : Nat)] 5)).drew.cell? ⟨g, 783 + n * 31 + 13 + ar, none⟩ = some (.string (bs ((d.T n).texts ar))) := by rw [Nat.add_assoc (783 + n * 31), hA.th n (13 + ar) hn (by omega), cellDT_text _ _ _ har]
     have f13 := hA.fro (783 + n * 31 + 13 + ar)
     have hcv := conv_one (Y.alloc (.cells #[.int .u8 (bt : Nat)] 5)).drew Y.heap.size bt hb256 (cell_of_row _ _ 0 _ _ _ (heap_alloc_new Y _))
     rw [← hcb] at hcv
     have HW11 := hide (And.intro (hA.setA n (13 + ar) hn (by omega) (783 + n * 31 + 13 + ar) (by omega) (.string (q ++ cb)) { d.T n with texts := updF (d.T n).texts ar l1 } rfl (fun j hj => by rw [cellDT_text' _ _ _ _ har j hj, HQQ.out])) (HFZ.out.trans ((DFr.of sv lv (box_below Y (.cells #[.int .u8 (bt : Nat)] 5))).trans ((DFr.of sv lv (Below.refl _ _).drew).trans (DFr.set (g := g) sv lv _ (783 + n * 31 + 13 + ar) (.string (q ++ cb)))))))
     clear hA hcb hl1
     go_wp2_with fail
     refine wp_region_any (by kernel_rfl) ?_
     change wpAny _ _ _ _ _ _ _ (World.drew _)
     refine Gl.wpAny_takeOf 0 (some 86) (Value.pointer (some ⟨g, 783 + n * 31, none⟩)) rfl rfl (by kernel_rfl) (by kernel_rfl) (by kernel_rfl) (fun _ _ _ h => h) (Or.inl ⟨by rfl, ?_⟩) ?_
     ·
      intro wx
      go_simp
     try simp only [Act.put, LT1, LT2, LT3]
     refine Gl.wpAny_takeOf 1 (some 87) (Value.pointer (some ⟨g, 783 + n * 31, none⟩)) rfl rfl (by kernel_rfl) (by kernel_rfl) (by kernel_rfl) (fun _ _ _ h => h) (Or.inl ⟨by rfl, ?_⟩) ?_
     ·
      intro wx
      go_simp
     try simp only [Act.put, LT1, LT2, LT3]
     refine Gl.wpAny_takeOf 2 (some 88) (Value.pointer (some ⟨g, 783 + n * 31, none⟩)) rfl rfl (by kernel_rfl) (by kernel_rfl) (by kernel_rfl) (fun _ _ _ h => h) (Or.inl ⟨by rfl, ?_⟩) ?_
     ·
      intro wx
      go_simp
     try simp only [Act.put, LT1, LT2, LT3]
     refine Gl.wpAny_takeOf 3 (some 89) (Value.pointer (some ⟨g, 783 + n * 31 + 17, none⟩)) rfl rfl (by kernel_rfl) (by kernel_rfl) (by kernel_rfl) (fun _ _ _ h => h) (Or.inl ⟨by rfl, ?_⟩) ?_
     ·
      intro wx
      go_simp
     try simp only [Act.put, LT1, LT2, LT3]
     refine Gl.wpAny_takeOf 5 (some 91) (.string q) rfl rfl (by kernel_rfl) (by kernel_rfl) (by kernel_rfl) (fun _ _ _ h => h) (Or.inl ⟨by rfl, ?_⟩) ?_
     ·
      intro wx
      go_simp
     try simp only [Act.put, LT1, LT2, LT3]
     refine Gl.wpAny_takeOf 6 (some 92) (.int .u8 bt) rfl rfl (by kernel_rfl) (by kernel_rfl) (by kernel_rfl) (fun _ _ _ h => h) (Or.inl ⟨by rfl, ?_⟩) ?_
     ·
      intro wx
      go_simp
     try simp only [Act.put, LT1, LT2, LT3]
     refine Gl.wpAny_takeOf 10 (some 96) (Value.pointer (some ⟨g, 783 + n * 31, none⟩)) rfl rfl (by kernel_rfl) (by kernel_rfl) (by kernel_rfl) (fun _ _ _ h => h) (Or.inl ⟨by rfl, ?_⟩) ?_
     ·
      intro wx
      go_simp
     try simp only [Act.put, LT1, LT2, LT3]
     refine Gl.wpAny_takeOf 11 (some 97) (Value.pointer (some ⟨g, 783 + n * 31 + 13, none⟩)) rfl rfl (by kernel_rfl) (by kernel_rfl) (by kernel_rfl) (fun _ _ _ h => h) (Or.inl ⟨by rfl, ?_⟩) ?_
     ·
      intro wx
      go_simp
     try simp only [Act.put, LT1, LT2, LT3]
     refine wpAny_two (i := 4) (j := 7) (by kernel_rfl) rfl rfl rfl rfl (fun K hK => ?_) (fun K hK => ?_)
     ·
      go_simp
      refine hK _ _ ?_
      clear hK K
      try simp only [Act.put, LT1, LT2, LT3]
      refine Gl.wpAny_only (i := 7) (by kernel_rfl) rfl rfl (fun K hK => ?_)
      go_simp
      refine hK _ _ ?_
      clear hK K
      try simp only [Act.put, LT1, LT2, LT3]
      refine Gl.wpAny_only (i := 8) (by kernel_rfl) rfl rfl (fun K hK => ?_)
      go_simp
      refine hK _ _ ?_
      clear hK K
      try simp only [Act.put, LT1, LT2, LT3]
      refine Gl.wpAny_only (i := 9) (by kernel_rfl) rfl rfl (fun K hK => ?_)
      go_simp
      refine hK _ _ ?_
      clear hK K
      try simp only [Act.put, LT1, LT2, LT3]
      refine Gl.wpAny_only (i := 12) (by kernel_rfl) rfl rfl (fun K hK => ?_)
      go_simp
      refine hK _ _ ?_
      clear hK K
      try simp only [Act.put, LT1, LT2, LT3]
      refine Gl.wpAny_only (i := 13) (by kernel_rfl) rfl rfl (fun K hK => ?_)
      go_simp
      refine hK _ _ ?_
      clear hK K
      try simp only [Act.put, LT1, LT2, LT3]
      refine wpAny_done (by kernel_rfl) ?_ _
      go_wp2
      go_end0
      rw [HSP.out]
      exact ⟨rfl, sv, lv, HW11.out.1, HW11.out.2⟩
     ·
      go_simp
      refine hK _ _ ?_
      clear hK K
      try simp only [Act.put, LT1, LT2, LT3]
      refine wpAny_two (i := 4) (j := 8) (by kernel_rfl) rfl rfl rfl rfl (fun K hK => ?_) (fun K hK => ?_)
      ·
       go_simp
       refine hK _ _ ?_
       clear hK K
       try simp only [Act.put, LT1, LT2, LT3]
       refine Gl.wpAny_only (i := 8) (by kernel_rfl) rfl rfl (fun K hK => ?_)
       go_simp
       refine hK _ _ ?_
       clear hK K
       try simp only [Act.put, LT1, LT2, LT3]
       refine Gl.wpAny_only (i := 9) (by kernel_rfl) rfl rfl (fun K hK => ?_)
       go_simp
       refine hK _ _ ?_
       clear hK K
       try simp only [Act.put, LT1, LT2, LT3]
       refine Gl.wpAny_only (i := 12) (by kernel_rfl) rfl rfl (fun K hK => ?_)
       go_simp
       refine hK _ _ ?_
       clear hK K
       try simp only [Act.put, LT1, LT2, LT3]
       refine Gl.wpAny_only (i := 13) (by kernel_rfl) rfl rfl (fun K hK => ?_)
       go_simp
       refine hK _ _ ?_
       clear hK K
       try simp only [Act.put, LT1, LT2, LT3]
       refine wpAny_done (by kernel_rfl) ?_ _
       go_wp2
       go_end0
       rw [HSP.out]
       exact ⟨rfl, sv, lv, HW11.out.1, HW11.out.2⟩
      ·
       go_simp
       refine hK _ _ ?_
       clear hK K
       try simp only [Act.put, LT1, LT2, LT3]
       refine wpAny_two (i := 4) (j := 9) (by kernel_rfl) rfl rfl rfl rfl (fun K hK => ?_) (fun K hK => ?_)
       ·
        go_simp
        refine hK _ _ ?_
        clear hK K
        try simp only [Act.put, LT1, LT2, LT3]
        refine Gl.wpAny_only (i := 9) (by kernel_rfl) rfl rfl (fun K hK => ?_)
        go_simp
        refine hK _ _ ?_
        clear hK K
        try simp only [Act.put, LT1, LT2, LT3]
        refine Gl.wpAny_only (i := 12) (by kernel_rfl) rfl rfl (fun K hK => ?_)
        go_simp
        refine hK _ _ ?_
        clear hK K
        try simp only [Act.put, LT1, LT2, LT3]
        refine Gl.wpAny_only (i := 13) (by kernel_rfl) rfl rfl (fun K hK => ?_)
        go_simp
        refine hK _ _ ?_
        clear hK K
        try simp only [Act.put, LT1, LT2, LT3]
        refine wpAny_done (by kernel_rfl) ?_ _
        go_wp2
        go_end0
        rw [HSP.out]
        exact ⟨rfl, sv, lv, HW11.out.1, HW11.out.2⟩
       ·
        go_simp
        refine hK _ _ ?_
        clear hK K
        try simp only [Act.put, LT1, LT2, LT3]
        refine Gl.wpAny_only (i := 4) (by kernel_rfl) rfl rfl (fun K hK => ?_)
        go_simp
        refine hK _ _ ?_
        clear hK K
        try simp only [Act.put, LT1, LT2, LT3]
        refine Gl.wpAny_only (i := 12) (by kernel_rfl) rfl rfl (fun K hK => ?_)
        go_simp
        refine hK _ _ ?_
        clear hK K
        try simp only [Act.put, LT1, LT2, LT3]
        refine Gl.wpAny_only (i := 13) (by kernel_rfl) rfl rfl (fun K hK => ?_)
        go_simp
        refine hK _ _ ?_
        clear hK K
        try simp only [Act.put, LT1, LT2, LT3]
        refine wpAny_done (by kernel_rfl) ?_ _
        go_wp2
        go_end0
        rw [HSP.out]
        exact ⟨rfl, sv, lv, HW11.out.1, HW11.out.2⟩
  ·
   as_aux_lemma =>
   have b2 : ((kd : Int) == 2) = false := by simpa using (show ¬ (kd : Int) = 2 by omega)
   rw [if_neg (show ¬ kd = 2 by omega)] at HSP
   clear hk3
   go_wp2_with fail
   go_quiet ((go_at_call 44; exact Calls.quiet_of_same (HK _)))
   obtain ⟨Y, hY⟩ : ∃ Y, Y = Z.drewN nq := ⟨_, rfl⟩
   have hby : Below W.heap.size W Y := by rw [hY]; exact below_drewN hbz _
   have HZ := hide (HH.out.on hby)
   have HFZ := hide (DFr.of (g := g) sv lv hby)
   rw [← hY]
   clear hY hbz hby z1 z4 nq HK w1 hwr
   have HZD := hide (HZ.out.on (Below.refl _ _).drew)
   have HFD := hide (HFZ.out.trans (DFr.of sv lv (Below.refl _ _).drew))
   obtain ⟨l1, hl1⟩ : ∃ l, l = rd ++ [UInt8.ofNat bt] := ⟨_, rfl⟩
   rw [← hl1] at HSP
   obtain ⟨cb, hcb⟩ : ∃ c, c = bs [UInt8.ofNat bt] := ⟨_, rfl⟩
   have hcat : ¬ 9223372036854775807 < q.size + cb.size := by rw [hcb, bs_size]; simp only [List.length_singleton]; have := HQS.out; omega
   obtain ⟨q1, hq1⟩ : ∃ x, x = q ++ cb := ⟨_, rfl⟩
   have HQ1 := hide (show q1 = bs l1 by rw [hq1, hcb, HQ.out, hl1, bs_append])
   have HS1 := hide (show q1.size = l1.length by rw [HQ1.out, bs_size])
   have hcv := conv_one (Y.alloc (.cells #[.int .u8 (bt : Nat)] 5)) Y.heap.size bt hb256 (cell_of_row _ _ 0 _ _ _ (heap_alloc_new Y _))
   rw [← hcb] at hcv
   obtain ⟨Y1, hY1⟩ : ∃ Y1, Y1 = Y.alloc (.cells #[.int .u8 (bt : Nat)] 5) := ⟨_, rfl⟩
   have hA : DX g P d sv lv Y1.drew := by rw [hY1]; exact (HZ.out.on (box_below Y _)).on (Below.refl _ _).drew
   have hFA : DFr g sv lv sv lv W Y1.drew := by rw [hY1]; exact HFZ.out.trans ((DFr.of sv lv (box_below Y _)).trans (DFr.of sv lv (Below.refl _ _).drew))
   have u17 : Y1.drew.cell? ⟨g, 783 + n * 31 + 17, none⟩ = some (.int .i64 (ar : Nat)) := by rw [hA.th n 17 hn (by omega), HAR.out]; rfl
   have u13 : Y1.drew.cell? ⟨g, 783 + n * 31 + 13 + ar, none⟩ = some (.string (bs ((d.T n).texts ar))) := by rw [Nat.add_assoc (783 + n * 31), hA.th n (13 + ar) hn (by omega), cellDT_text _ _ _ har]
   have f13 := hA.fro (783 + n * 31 + 13 + ar)
   have HW13 := hide (And.intro (hA.setA n (13 + ar) hn (by omega) (783 + n * 31 + 13 + ar) (by omega) (.string q1) { d.T n with texts := updF (d.T n).texts ar l1 } rfl (fun j hj => by rw [cellDT_text' _ _ _ _ har j hj, HQ1.out])) (hFA.trans (DFr.set (g := g) sv lv _ (783 + n * 31 + 13 + ar) (.string q1))))
   clear hA hFA hcb hl1
   go_wp2_with fail
   rw [← hq1, ← hY1]
   clear hq1 hY1 hcv hcat HZ HFZ HZD HFD
   refine wp_region_any (by kernel_rfl) ?_
   change wpAny _ _ _ _ _ _ _ (World.drew _)
   refine Gl.wpAny_takeOf 0 (some 104) (Value.pointer (some ⟨g, 783 + n * 31, none⟩)) rfl rfl (by kernel_rfl) (by kernel_rfl) (by kernel_rfl) (fun _ _ _ h => h) (Or.inl ⟨by rfl, ?_⟩) ?_
   ·
    intro wx
    go_simp
   try simp only [Act.put, LT1, LT2, LT3]
   refine Gl.wpAny_takeOf 1 (some 105) (Value.pointer (some ⟨g, 783 + n * 31, none⟩)) rfl rfl (by kernel_rfl) (by kernel_rfl) (by kernel_rfl) (fun _ _ _ h => h) (Or.inl ⟨by rfl, ?_⟩) ?_
   ·
    intro wx
    go_simp
   try simp only [Act.put, LT1, LT2, LT3]
   refine Gl.wpAny_takeOf 2 (some 106) (Value.pointer (some ⟨g, 783 + n * 31, none⟩)) rfl rfl (by kernel_rfl) (by kernel_rfl) (by kernel_rfl) (fun _ _ _ h => h) (Or.inl ⟨by rfl, ?_⟩) ?_
   ·
    intro wx
    go_simp
   try simp only [Act.put, LT1, LT2, LT3]
   refine Gl.wpAny_takeOf 3 (some 107) (Value.pointer (some ⟨g, 783 + n * 31 + 17, none⟩)) rfl rfl (by kernel_rfl) (by kernel_rfl) (by kernel_rfl) (fun _ _ _ h => h) (Or.inl ⟨by rfl, ?_⟩) ?_
   ·
    intro wx
    go_simp
   try simp only [Act.put, LT1, LT2, LT3]
   refine Gl.wpAny_takeOf 5 (some 109) (.string q1) rfl rfl (by kernel_rfl) (by kernel_rfl) (by kernel_rfl) (fun _ _ _ h => h) (Or.inl ⟨by rfl, ?_⟩) ?_
   ·
    intro wx
    go_simp
   try simp only [Act.put, LT1, LT2, LT3]
   refine Gl.wpAny_takeOf 6 (some 110) (Value.pointer (some ⟨g, 783 + n * 31, none⟩)) rfl rfl (by kernel_rfl) (by kernel_rfl) (by kernel_rfl) (fun _ _ _ h => h) (Or.inl ⟨by rfl, ?_⟩) ?_
   ·
    intro wx
    go_simp
   try simp only [Act.put, LT1, LT2, LT3]
   refine Gl.wpAny_takeOf 7 (some 111) (Value.pointer (some ⟨g, 783 + n * 31 + 13, none⟩)) rfl rfl (by kernel_rfl) (by kernel_rfl) (by kernel_rfl) (fun _ _ _ h => h) (Or.inl ⟨by rfl, ?_⟩) ?_
   ·
    intro wx
    go_simp
   try simp only [Act.put, LT1, LT2, LT3]
   refine Gl.wpAny_only (i := 4) (by kernel_rfl) rfl rfl (fun K hK => ?_)
   go_simp
   refine hK _ _ ?_
   clear hK K
   try simp only [Act.put, LT1, LT2, LT3]
   refine Gl.wpAny_only (i := 8) (by kernel_rfl) rfl rfl (fun K hK => ?_)
   go_simp
   refine hK _ _ ?_
   clear hK K
   try simp only [Act.put, LT1, LT2, LT3]
   refine Gl.wpAny_only (i := 9) (by kernel_rfl) rfl rfl (fun K hK => ?_)
   go_simp
   refine hK _ _ ?_
   clear hK K
   try simp only [Act.put, LT1, LT2, LT3]
   refine wpAny_done (by kernel_rfl) ?_ _
   obtain ⟨V, hV⟩ : ∃ V, V = (Y1.setCell ⟨g, 783 + n * 31 + 13 + ar, none⟩ (.string q1)).drew := ⟨_, rfl⟩
   replace HW13 : Hid (DX g P (d.put n { d.T n with texts := updF (d.T n).texts ar l1 }) sv lv V ∧ DFr g sv lv sv lv W V) := by rw [hV]; exact HW13
   rw [← hV]
   clear hV u17 u13 f13
   by_cases h16 : q1.size < 16
   ·
    as_aux_lemma =>
    have s16 : (q1.size : Int) < 16 := by omega
    rw [if_pos (show l1.length < 16 by rw [← HS1.out]; exact h16)] at HSP
    clear h16
    go_wp2
    go_end0
    rw [HSP.out]
    exact ⟨rfl, sv, lv, HW13.out.1, HW13.out.2⟩
   ·
    as_aux_lemma =>
    have s16 : ¬ (q1.size : Int) < 16 := by omega
    rw [if_neg (show ¬ l1.length < 16 by rw [← HS1.out]; exact h16), ← HQ1.out] at HSP
    clear h16
    have HAO := addrOf_any q1 V
    obtain ⟨rr, hrr⟩ : ∃ r, r = readR q1 := ⟨_, rfl⟩
    rw [← hrr] at HAO HSP
    have HRR := hide hrr
    clear hrr
    cases rr with
    | none => as_aux_lemma =>
     unfold ofV at HAO
     simp only at HAO HSP
     go_wp2_with fail
     refine HAO.mono ?_
     rintro e X ⟨rfl, hX⟩
     have HX := hide (HW13.out.1.on hX)
     have HFX := hide (HW13.out.2.trans (DFr.of sv lv hX))
     clear hX HAO HW13
     have HE := dend2 n hn 22 HX.out hlog (by rw [T_dput]; exact hs64)
     rw [show dend n 2 22 zeroVS (d.put n { d.T n with texts := updF (d.T n).texts ar l1 }) = dend n 2 22 zeroVS d from dend_dput (t := { d.T n with texts := updF (d.T n).texts ar l1 }) rfl rfl 2 22 zeroVS] at HE
     go_wp2_with fail
     refine HE.mono ?_
     rintro e w' hG
     obtain ⟨rfl, h1⟩ := DGoes.from HFX.out hG
     clear hG
     go_wp2
     go_end0
     rw [HSP.out]
     exact ⟨rfl, h1⟩
    | some pr => as_aux_lemma =>
     obtain ⟨ip, port⟩ := pr
     unfold ofV at HAO
     simp only at HAO HSP
     go_wp2_with fail
     refine HAO.mono ?_
     rintro e X ⟨rfl, hX⟩
     have HX := hide ((HW13.out.1.on hX).on (Below.refl _ _).drew)
     have HFX := hide (HW13.out.2.trans ((DFr.of sv lv hX).trans (DFr.of sv lv (Below.refl _ _).drew)))
     clear hX HAO HW13
     have u17 : X.drew.cell? ⟨g, 783 + n * 31 + 17, none⟩ = some (.int .i64 (ar : Nat)) := by rw [HX.out.th n 17 hn (by omega), T_dput, HAR.out]; rfl
     have u1 : X.drew.cell? ⟨g, 783 + n * 31 + 18 + ar * 3 + 1, none⟩ = some (.int .u32 (((d.T n).vals ar).ip : Nat)) := by rw [show 783 + n * 31 + 18 + ar * 3 + 1 = 783 + n * 31 + (18 + ar * 3 + 1) by omega, HX.out.th n (18 + ar * 3 + 1) hn (by omega), T_dput, (cellDT_val _ _ _ har).2.1]
     have f1 := HX.out.fro (783 + n * 31 + 18 + ar * 3 + 1)
     have HW18 := hide (And.intro (HX.out.setPA (18 + ar * 3 + 1) hn (by omega) (783 + n * 31 + 18 + ar * 3 + 1) (by omega) (.int .u32 (ip : Nat)) { d.T n with texts := updF (d.T n).texts ar l1, vals := updF (d.T n).vals ar ⟨((d.T n).vals ar).path, ip, ((d.T n).vals ar).port⟩ } rfl (fun j hj => cellDT_ip' ({ d.T n with texts := updF (d.T n).texts ar l1 }) (sv n) ar ip har j hj)) (HFX.out.trans (DFr.set (g := g) sv lv X.drew (783 + n * 31 + 18 + ar * 3 + 1) (.int .u32 (ip : Nat)))))
     clear HX HFX
     go_wp2_with fail
     refine wp_region_any (by kernel_rfl) ?_
     change wpAny _ _ _ _ _ _ _ (World.drew _)
     refine Gl.wpAny_takeOf 0 (some 128) (Value.pointer (some ⟨g, 783 + n * 31, none⟩)) rfl rfl (by kernel_rfl) (by kernel_rfl) (by kernel_rfl) (fun _ _ _ h => h) (Or.inl ⟨by rfl, ?_⟩) ?_
     ·
      intro wx
      go_simp
     try simp only [Act.put, LT1, LT2, LT3]
     refine Gl.wpAny_takeOf 1 (some 129) (Value.pointer (some ⟨g, 783 + n * 31, none⟩)) rfl rfl (by kernel_rfl) (by kernel_rfl) (by kernel_rfl) (fun _ _ _ h => h) (Or.inl ⟨by rfl, ?_⟩) ?_
     ·
      intro wx
      go_simp
     try simp only [Act.put, LT1, LT2, LT3]
     refine Gl.wpAny_takeOf 2 (some 130) (Value.pointer (some ⟨g, 783 + n * 31, none⟩)) rfl rfl (by kernel_rfl) (by kernel_rfl) (by kernel_rfl) (fun _ _ _ h => h) (Or.inl ⟨by rfl, ?_⟩) ?_
     ·
      intro wx
      go_simp
     try simp only [Act.put, LT1, LT2, LT3]
     refine Gl.wpAny_takeOf 3 (some 131) (Value.pointer (some ⟨g, 783 + n * 31 + 17, none⟩)) rfl rfl (by kernel_rfl) (by kernel_rfl) (by kernel_rfl) (fun _ _ _ h => h) (Or.inl ⟨by rfl, ?_⟩) ?_
     ·
      intro wx
      go_simp
     try simp only [Act.put, LT1, LT2, LT3]
     refine Gl.wpAny_takeOf 5 (some 133) (.int .u32 (ip : Nat)) rfl rfl (by kernel_rfl) (by kernel_rfl) (by kernel_rfl) (fun _ _ _ h => h) (Or.inl ⟨by rfl, ?_⟩) ?_
     ·
      intro wx
      go_simp
     try simp only [Act.put, LT1, LT2, LT3]
     refine Gl.wpAny_takeOf 6 (some 134) (Value.pointer (some ⟨g, 783 + n * 31, none⟩)) rfl rfl (by kernel_rfl) (by kernel_rfl) (by kernel_rfl) (fun _ _ _ h => h) (Or.inl ⟨by rfl, ?_⟩) ?_
     ·
      intro wx
      go_simp
     try simp only [Act.put, LT1, LT2, LT3]
     refine Gl.wpAny_takeOf 7 (some 135) (Value.pointer (some ⟨g, 783 + n * 31 + 18, none⟩)) rfl rfl (by kernel_rfl) (by kernel_rfl) (by kernel_rfl) (fun _ _ _ h => h) (Or.inl ⟨by rfl, ?_⟩) ?_
     ·
      intro wx
      go_simp
     try simp only [Act.put, LT1, LT2, LT3]
     refine Gl.wpAny_only (i := 4) (by kernel_rfl) rfl rfl (fun K hK => ?_)
     go_simp
     refine hK _ _ ?_
     clear hK K
     try simp only [Act.put, LT1, LT2, LT3]
     refine Gl.wpAny_only (i := 8) (by kernel_rfl) rfl rfl (fun K hK => ?_)
     go_simp
     refine hK _ _ ?_
     clear hK K
     try simp only [Act.put, LT1, LT2, LT3]
     refine Gl.wpAny_only (i := 9) (by kernel_rfl) rfl rfl (fun K hK => ?_)
     go_simp
     refine hK _ _ ?_
     clear hK K
     try simp only [Act.put, LT1, LT2, LT3]
     refine Gl.wpAny_only (i := 10) (by kernel_rfl) rfl rfl (fun K hK => ?_)
     go_simp
     refine hK _ _ ?_
     clear hK K
     try simp only [Act.put, LT1, LT2, LT3]
     refine wpAny_done (by kernel_rfl) ?_ _
     obtain ⟨X2, hX2⟩ : ∃ V, V = (X.setCell ⟨g, 783 + n * 31 + 18 + ar * 3 + 1, none⟩ (.int .u32 (ip : Nat))).drew := ⟨_, rfl⟩
     replace HW18 : Hid (DX g P (d.put n { d.T n with texts := updF (d.T n).texts ar l1, vals := updF (d.T n).vals ar ⟨((d.T n).vals ar).path, ip, ((d.T n).vals ar).port⟩ }) sv lv X2 ∧ DFr g sv lv sv lv W X2) := by rw [hX2]; exact HW18
     rw [← hX2]
     clear hX2 u17 u1 f1
     have HX := hide (HW18.out.1.on (Below.refl _ _).drew)
     have HFX := hide (HW18.out.2.trans (DFr.of sv lv (Below.refl _ _).drew))
     clear HW18
     have u17 : X2.drew.cell? ⟨g, 783 + n * 31 + 17, none⟩ = some (.int .i64 (ar : Nat)) := by rw [HX.out.th n 17 hn (by omega), T_dput, HAR.out]; rfl
     have u1 : X2.drew.cell? ⟨g, 783 + n * 31 + 18 + ar * 3 + 2, none⟩ = some (.int .i64 ((d.T n).vals ar).port) := by rw [show 783 + n * 31 + 18 + ar * 3 + 2 = 783 + n * 31 + (18 + ar * 3 + 2) by omega, HX.out.th n (18 + ar * 3 + 2) hn (by omega), T_dput, (cellDT_val _ _ _ har).2.2]; simp only [updF_same]
     have f1 := HX.out.fro (783 + n * 31 + 18 + ar * 3 + 2)
     have HW19 := hide (And.intro (HX.out.setPA (18 + ar * 3 + 2) hn (by omega) (783 + n * 31 + 18 + ar * 3 + 2) (by omega) (.int .i64 (port : Nat)) { d.T n with texts := updF (d.T n).texts ar l1, vals := updF (d.T n).vals ar ⟨((d.T n).vals ar).path, ip, port⟩ } rfl (fun j hj => by have := cellDT_port' ({ d.T n with texts := updF (d.T n).texts ar l1, vals := updF (d.T n).vals ar ⟨((d.T n).vals ar).path, ip, ((d.T n).vals ar).port⟩ }) (sv n) ar (port : Nat) har j hj; simp only [updF_same, updF_again] at this; exact this)) (HFX.out.trans (DFr.set (g := g) sv lv X2.drew (783 + n * 31 + 18 + ar * 3 + 2) (.int .i64 (port : Nat)))))
     clear HX HFX
     go_wp2_with fail
     refine wp_region_any (by kernel_rfl) ?_
     change wpAny _ _ _ _ _ _ _ (World.drew _)
     refine Gl.wpAny_takeOf 0 (some 138) (Value.pointer (some ⟨g, 783 + n * 31, none⟩)) rfl rfl (by kernel_rfl) (by kernel_rfl) (by kernel_rfl) (fun _ _ _ h => h) (Or.inl ⟨by rfl, ?_⟩) ?_
     ·
      intro wx
      go_simp
     try simp only [Act.put, LT1, LT2, LT3]
     refine Gl.wpAny_takeOf 1 (some 139) (Value.pointer (some ⟨g, 783 + n * 31, none⟩)) rfl rfl (by kernel_rfl) (by kernel_rfl) (by kernel_rfl) (fun _ _ _ h => h) (Or.inl ⟨by rfl, ?_⟩) ?_
     ·
      intro wx
      go_simp
     try simp only [Act.put, LT1, LT2, LT3]
     refine Gl.wpAny_takeOf 2 (some 140) (Value.pointer (some ⟨g, 783 + n * 31, none⟩)) rfl rfl (by kernel_rfl) (by kernel_rfl) (by kernel_rfl) (fun _ _ _ h => h) (Or.inl ⟨by rfl, ?_⟩) ?_
     ·
      intro wx
      go_simp
     try simp only [Act.put, LT1, LT2, LT3]
     refine Gl.wpAny_takeOf 3 (some 141) (Value.pointer (some ⟨g, 783 + n * 31 + 17, none⟩)) rfl rfl (by kernel_rfl) (by kernel_rfl) (by kernel_rfl) (fun _ _ _ h => h) (Or.inl ⟨by rfl, ?_⟩) ?_
     ·
      intro wx
      go_simp
     try simp only [Act.put, LT1, LT2, LT3]
     refine Gl.wpAny_takeOf 5 (some 143) (.int .i64 (port : Nat)) rfl rfl (by kernel_rfl) (by kernel_rfl) (by kernel_rfl) (fun _ _ _ h => h) (Or.inl ⟨by rfl, ?_⟩) ?_
     ·
      intro wx
      go_simp
     try simp only [Act.put, LT1, LT2, LT3]
     refine Gl.wpAny_takeOf 6 (some 144) (Value.pointer (some ⟨g, 783 + n * 31, none⟩)) rfl rfl (by kernel_rfl) (by kernel_rfl) (by kernel_rfl) (fun _ _ _ h => h) (Or.inl ⟨by rfl, ?_⟩) ?_
     ·
      intro wx
      go_simp
     try simp only [Act.put, LT1, LT2, LT3]
     refine Gl.wpAny_takeOf 7 (some 145) (Value.pointer (some ⟨g, 783 + n * 31 + 18, none⟩)) rfl rfl (by kernel_rfl) (by kernel_rfl) (by kernel_rfl) (fun _ _ _ h => h) (Or.inl ⟨by rfl, ?_⟩) ?_
     ·
      intro wx
      go_simp
     try simp only [Act.put, LT1, LT2, LT3]
     refine Gl.wpAny_only (i := 4) (by kernel_rfl) rfl rfl (fun K hK => ?_)
     go_simp
     refine hK _ _ ?_
     clear hK K
     try simp only [Act.put, LT1, LT2, LT3]
     refine Gl.wpAny_only (i := 8) (by kernel_rfl) rfl rfl (fun K hK => ?_)
     go_simp
     refine hK _ _ ?_
     clear hK K
     try simp only [Act.put, LT1, LT2, LT3]
     refine Gl.wpAny_only (i := 9) (by kernel_rfl) rfl rfl (fun K hK => ?_)
     go_simp
     refine hK _ _ ?_
     clear hK K
     try simp only [Act.put, LT1, LT2, LT3]
     refine Gl.wpAny_only (i := 10) (by kernel_rfl) rfl rfl (fun K hK => ?_)
     go_simp
     refine hK _ _ ?_
     clear hK K
     try simp only [Act.put, LT1, LT2, LT3]
     refine wpAny_done (by kernel_rfl) ?_ _
     have HV := HW19
     have HFU := dfurther_any n hn (by rw [T_dput]; show (d.T n).asked.nr ≤ 8; rw [← HN.out]; exact h8) (by rw [T_dput]; show (d.T n).arg < 4; rw [← HAR.out]; exact har) HV.out.1
     rw [T_dput] at HFU
     rw [show dfurther n { d.T n with texts := updF (d.T n).texts ar l1, vals := updF (d.T n).vals ar ⟨((d.T n).vals ar).path, ip, port⟩ } (d.put n { d.T n with texts := updF (d.T n).texts ar l1, vals := updF (d.T n).vals ar ⟨((d.T n).vals ar).path, ip, port⟩ }) = dfurther n { d.T n with texts := updF (d.T n).texts ar l1, vals := updF (d.T n).vals ar ⟨((d.T n).vals ar).path, ip, port⟩ } d from dput_dput _ _ _ _] at HFU
     go_wp2_with fail
     refine HFU.mono ?_
     rintro e w' hG
     obtain ⟨rfl, h1⟩ := DGoes.from HV.out.2 hG
     clear hG
     go_wp2
     go_end0
     rw [HSP.out]
     exact ⟨rfl, h1⟩
end Go.Proofs.YtklibmijiecbfaaGreat
