/- The document's seal. -/
import Derived.Test.YtklibmijiecbfaaGreatK29
import Derived.Test.YtklibmijiecbfaaGreatK30
namespace Go.Proofs.YtklibmijiecbfaaGreat
open Go.RowKit Mm

theorem u64_info : ∃ i, Tryz.prog.info? 42 = some i ∧ i.zero = some (.int .u64 0) ∧ i.size = 1 ∧ i.bytes = 8 := by
  have hz : (Tryz.prog.info? 42).map (·.zero) = some (some (.int .u64 0)) := by kernel_rfl
  have hs : (Tryz.prog.info? 42).map (·.size) = some 1 := by kernel_rfl
  have hb : (Tryz.prog.info? 42).map (·.bytes) = some 8 := by kernel_rfl
  cases hq : Tryz.prog.info? 42 with
  | none => rw [hq] at hs; simp at hs
  | some i =>
    rw [hq] at hz hs hb
    simp at hz hs hb
    exact ⟨i, rfl, hz, hs, hb⟩
theorem bs_self (p : ByteArray) : bs p.data.toList = p := by
  unfold bs
  rw [Array.toArray_toList]
theorem u64L_snoc (l : List Nat) (x : Nat) : u64L (l ++ [x]) = u64L l ++ [.int .u64 x] := by simp [u64L]
theorem dsealL_hit {n i q : Nat} {r : List Nat} {d : DWS} (hq : freeQ d.mem = some q) : dsealL n (i :: r) d = dsealL n r ⟨updF d.T n { d.T n with now := updF (d.T n).now i (q * 64), seals := (d.T n).seals ++ [q * 64] }, sealM d.mem q (bytesV (kindAt (d.T n).asked.nr i) ((d.T n).vals i)), d.log⟩ := by
  show (match freeQ d.mem with | none => _ | some q => _) = _
  rw [hq]
theorem dsealL_full {n i : Nat} {r : List Nat} {d : DWS} (hq : freeQ d.mem = none) : dsealL n (i :: r) d = dend n 2 12 zeroVS d := by
  show (match freeQ d.mem with | none => _ | some q => _) = _
  rw [hq]
def SealV (t : DT) (i : Nat) : Prop := ∀ j, i ≤ j → j < 4 → 2 ≤ kindAt t.asked.nr j → ValOk (kindAt t.asked.nr j) (t.vals j)
set_option maxHeartbeats 4000000 in
set_option maxRecDepth 20000 in
theorem dseal_any {g : Nat} {P : PV} {d0 : DWS} {sv0 : Nat → Value} {lv : Value} {W : World} (n : Nat) (hn : n < 3) (h80 : (d0.T n).asked.nr ≤ 8) (hvo0 : SealV (d0.T n) 0) (hse0 : (d0.T n).seals = []) (h : DX g P d0 sv0 lv W) (hlog0 : d0.log.length ≤ 1000000) :
    Calls Tryz.prog 70 #[.pointer (some ⟨g, 0, none⟩), .int .i64 n] W (DGoes g P (dsealL n (ptsOf (d0.T n).asked.nr) d0) sv0 lv W) := by
  have j0 : ¬ (n : Int) < 0 := by omega
  have j1 : (0 : Int) ≤ n := by omega
  have j2 : ¬ (2 : Int) < n := by omega
  have j3 : (n : Int) < 3 := by omega
  obtain ⟨nr, hnr⟩ : ∃ a, a = (d0.T n).asked.nr := ⟨_, rfl⟩
  obtain ⟨R, hR⟩ : ∃ R, R = dsealL n (ptsOf nr) d0 := ⟨_, rfl⟩
  have h8 : nr ≤ 8 := by rw [hnr]; exact h80
  have w1 : IntKind.wrap .i64 (nr : Int) = nr := by rw [IntKind.wrap_i64] <;> omega
  have HK := fun k hk w => dkind_any nr k (by omega) hk w
  rw [← hnr, ← hR]
  have HD0 := hide h
  have HF0 := hide (DFr.refl g sv0 lv W)
  have HI0 := hide (show (d0.T n).asked.nr = nr ∧ SealV (d0.T n) 0 ∧ (d0.T n).seals.length ≤ 0 ∧ (∀ x ∈ (d0.T n).seals, x < 18446744073709551616) ∧ d0.log.length ≤ 1000000 ∧ dsealL n (remL nr 0) d0 = R from ⟨hnr.symm, hvo0, by rw [hse0]; exact Nat.le_refl _, by rw [hse0]; simp, hlog0, by rw [remL_zero h8, hR]⟩)
  clear h hnr hR h80 hvo0 hse0 hlog0
  go_enter Tryz.func70, Tryz.ntmps70
  go_wp2_with fail
  go_loopw [5] (fun I w' => ∃ (i : Nat) (d : DWS) (sv : Nat → Value), i ≤ 4 ∧ I = .int .i64 i ∧ Hid (DX g P d sv lv w') ∧ Hid (DFr g sv0 lv sv lv W w') ∧ Hid ((d.T n).asked.nr = nr ∧ SealV (d.T n) i ∧ (d.T n).seals.length ≤ i ∧ (∀ x ∈ (d.T n).seals, x < 18446744073709551616) ∧ d.log.length ≤ 1000000 ∧ dsealL n (remL nr i) d = R)) (fun I _ => 4 - (intOf I).toNat)
  case atStart => exact ⟨0, d0, sv0, by omega, rfl, HD0, HF0, HI0⟩
  case round =>
    obtain ⟨i, d, sv, hi, rfl, HD, HF, HI⟩ := hrel
    clear HD0 HF0 HI0
    have y8 : wr.cell? ⟨g, 783 + n * 31 + 8, none⟩ = some (.int .u32 (nr : Nat)) := by rw [HD.out.th n 8 hn (by omega), ← HI.out.1]; rfl
    by_cases hlt : i < 4
    · have hl : (i : Int) < 4 := by omega
      have k1 : (0 : Int) ≤ i := by omega
      have HKJ := fun w => HK i hlt w
      obtain ⟨kd, hkd⟩ : ∃ k, k = kindAt nr i := ⟨_, rfl⟩
      simp only [← hkd] at HKJ
      have hk3 : kd ≤ 3 := by rw [hkd]; exact kind_le _ _
      by_cases hk2 : 2 ≤ kd
      · have hk2n : ¬ (kd : Int) < 2 := by omega
        have hhit := remL_hit hlt (by rw [← hkd]; exact hk2)
        have hvok : ValOk kd ((d.T n).vals i) := by have := HI.out.2.1 i (Nat.le_refl _) hlt (by rw [HI.out.1, ← hkd]; exact hk2); rwa [HI.out.1, ← hkd] at this
        obtain ⟨s, hs⟩ : ∃ s, s = bs (bytesV kd ((d.T n).vals i)) := ⟨_, rfl⟩
        have hs64 : s.size ≤ 64 := by rw [hs, bs_size]; exact bytesV_len hvok
        have HSD := hide (show s.data.toList = bytesV kd ((d.T n).vals i) by rw [hs]; rfl)
        have HHIT := hide (show dsealL n (i :: remL nr (i + 1)) d = R by rw [← hhit]; exact HI.out.2.2.2.2.2)
        have HKD := hide hkd
        clear hhit
        have HVK := hide hvok
        obtain ⟨pt, hpt⟩ : ∃ p, p = ((d.T n).vals i).path := ⟨_, rfl⟩
        obtain ⟨zb, hzb⟩ : ∃ z : ByteArray, z = bs [UInt8.ofNat 0] := ⟨_, rfl⟩
        obtain ⟨s0, hs0⟩ : ∃ z, z = pt ++ zb := ⟨_, rfl⟩
        have hpl : pt.size ≤ 40 := by
          rw [hpt]
          rcases hvok with ⟨_, h1, _⟩ | ⟨_, h1, _⟩
          · exact h1
          · rw [h1]; exact Nat.zero_le _
        have hcat : ¬ 9223372036854775807 < pt.size + zb.size := by rw [hzb, bs_size]; simp only [List.length_singleton]; omega
        have HS0 := hide (show kd = 2 → s = s0 by
          intro h2
          rw [hs, hs0, hzb, hpt]
          unfold bytesV
          rw [if_neg (by omega), ← bs_append, bs_self]
          rfl)
        have y18 : wr.drew.cell? ⟨g, 783 + n * 31 + 18 + i * 3, none⟩ = some (.string pt) := by
          have := HD.out.th n (18 + i * 3) hn (by omega)
          rw [(cellDT_val _ _ _ hlt).1, ← hpt, ← Nat.add_assoc] at this
          exact this
        have hA := (HD.out.on (box_below wr (.cells #[.int .u8 0] 5))).on (Below.refl _ _).drew
        have z18 : (wr.alloc (.cells #[.int .u8 0] 5)).drew.cell? ⟨g, 783 + n * 31 + 18 + i * 3, none⟩ = some (.string pt) := by
          have := hA.th n (18 + i * 3) hn (by omega)
          rw [(cellDT_val _ _ _ hlt).1, ← hpt, ← Nat.add_assoc] at this
          exact this
        have hcv : (convert 132 9 (.slice (some ⟨wr.heap.size, 0, none⟩) 1 1)).run Tryz.prog (wr.alloc (.cells #[.int .u8 0] 5)).drew = .ok (.string zb) (wr.alloc (.cells #[.int .u8 0] 5)).drew := by rw [hzb]; exact conv_one (wr.alloc (.cells #[.int .u8 0] 5)).drew wr.heap.size 0 (by omega) (cell_of_row _ _ 0 _ _ _ (heap_alloc_new wr _))
        have HA := hide (And.intro hA (HF.out.trans ((DFr.of (g := g) sv lv (box_below wr (.cells #[.int .u8 0] 5))).trans (DFr.of sv lv (Below.refl _ _).drew))))
        clear hA hpt hzb hs hkd hvok
        have HS0Q := hide hs0
        clear hs0
        go_wp2_with (go_at_call 44; refine (HKJ _).mono ?_; rintro e w' ⟨rfl, hw⟩; rw [hw]; clear hw w')
        go_cut [7] (fun S wc => S = .string s0 ∧ Hid (DX g P d sv lv wc ∧ DFr g sv0 lv sv lv W wc))
        case first => as_aux_lemma =>
          refine wp_region_any (by kernel_rfl) ?_
          change wpAny _ _ _ _ _ _ _ (World.drew _)
          refine Gl.wpAny_takeOf 0 (some 29) (Value.pointer (some ⟨g, 783 + n * 31, none⟩)) rfl rfl (by kernel_rfl) (by kernel_rfl) (by kernel_rfl) (fun _ _ _ h => h) (Or.inl ⟨by rfl, ?_⟩) ?_
          · intro wx
            go_simp
          try simp only [Act.put, LT1, LT2, LT3]
          refine Gl.wpAny_takeOf 1 (some 30) (.int .i64 i) rfl rfl (by kernel_rfl) (by kernel_rfl) (by kernel_rfl) (fun _ _ _ h => h) (Or.inl ⟨by rfl, ?_⟩) ?_
          · intro wx
            go_simp
          try simp only [Act.put, LT1, LT2, LT3]
          refine Gl.wpAny_takeOf 2 (some 31) (Value.pointer (some ⟨g, 783 + n * 31, none⟩)) rfl rfl (by kernel_rfl) (by kernel_rfl) (by kernel_rfl) (fun _ _ _ h => h) (Or.inl ⟨by rfl, ?_⟩) ?_
          · intro wx
            go_simp
          try simp only [Act.put, LT1, LT2, LT3]
          refine Gl.wpAny_takeOf 3 (some 32) (Value.pointer (some ⟨g, 783 + n * 31 + 18, none⟩)) rfl rfl (by kernel_rfl) (by kernel_rfl) (by kernel_rfl) (fun _ _ _ h => h) (Or.inl ⟨by rfl, ?_⟩) ?_
          · intro wx
            go_simp
          try simp only [Act.put, LT1, LT2, LT3]
          refine Gl.wpAny_takeOf 4 (some 33) (Value.pointer (some ⟨g, 783 + n * 31 + 18 + i * 3, none⟩)) rfl rfl (by kernel_rfl) (by kernel_rfl) (by kernel_rfl) (fun _ _ _ h => h) (Or.inl ⟨by rfl, ?_⟩) ?_
          · intro wx
            go_simp
          try simp only [Act.put, LT1, LT2, LT3]
          refine Gl.wpAny_takeOf 5 (some 34) (Value.pointer (some ⟨g, 783 + n * 31 + 18 + i * 3, none⟩)) rfl rfl (by kernel_rfl) (by kernel_rfl) (by kernel_rfl) (fun _ _ _ h => h) (Or.inl ⟨by rfl, ?_⟩) ?_
          · intro wx
            go_simp
          try simp only [Act.put, LT1, LT2, LT3]
          refine wpAny_two (i := 6) (j := 7) (by kernel_rfl) rfl rfl rfl rfl (fun K hK => ?_) (fun K hK => ?_)
          · go_simp
            refine hK _ _ ?_
            clear hK K
            try simp only [Act.put, LT1, LT2, LT3]
            refine Gl.wpAny_only (i := 7) (by kernel_rfl) rfl rfl (fun K hK => ?_)
            go_simp
            refine hK _ _ ?_
            clear hK K
            try simp only [Act.put, LT1, LT2, LT3]
            refine Gl.wpAny_only (i := 8) (by kernel_rfl) rfl rfl (fun K hK => ?_)
            go_simp
            refine hK _ _ ?_
            clear hK K
            try simp only [Act.put, LT1, LT2, LT3]
            refine Gl.wpAny_only (i := 9) (by kernel_rfl) rfl rfl (fun K hK => ?_)
            go_simp
            refine hK _ _ ?_
            clear hK K
            try simp only [Act.put, LT1, LT2, LT3]
            refine Gl.wpAny_only (i := 10) (by kernel_rfl) rfl rfl (fun K hK => ?_)
            go_simp
            refine hK _ _ ?_
            clear hK K
            try simp only [Act.put, LT1, LT2, LT3]
            refine wpAny_done (by kernel_rfl) ?_ _
            go_wp2_with fail
            rw [← HS0Q.out]
            go_meet
            case rel => exact ⟨rfl, HA⟩
          · go_simp
            refine hK _ _ ?_
            clear hK K
            try simp only [Act.put, LT1, LT2, LT3]
            refine wpAny_two (i := 6) (j := 8) (by kernel_rfl) rfl rfl rfl rfl (fun K hK => ?_) (fun K hK => ?_)
            · go_simp
              refine hK _ _ ?_
              clear hK K
              try simp only [Act.put, LT1, LT2, LT3]
              refine Gl.wpAny_only (i := 8) (by kernel_rfl) rfl rfl (fun K hK => ?_)
              go_simp
              refine hK _ _ ?_
              clear hK K
              try simp only [Act.put, LT1, LT2, LT3]
              refine Gl.wpAny_only (i := 9) (by kernel_rfl) rfl rfl (fun K hK => ?_)
              go_simp
              refine hK _ _ ?_
              clear hK K
              try simp only [Act.put, LT1, LT2, LT3]
              refine Gl.wpAny_only (i := 10) (by kernel_rfl) rfl rfl (fun K hK => ?_)
              go_simp
              refine hK _ _ ?_
              clear hK K
              try simp only [Act.put, LT1, LT2, LT3]
              refine wpAny_done (by kernel_rfl) ?_ _
              go_wp2_with fail
              rw [← HS0Q.out]
              go_meet
              case rel => exact ⟨rfl, HA⟩
            · go_simp
              refine hK _ _ ?_
              clear hK K
              try simp only [Act.put, LT1, LT2, LT3]
              refine Gl.wpAny_only (i := 6) (by kernel_rfl) rfl rfl (fun K hK => ?_)
              go_simp
              refine hK _ _ ?_
              clear hK K
              try simp only [Act.put, LT1, LT2, LT3]
              refine Gl.wpAny_only (i := 9) (by kernel_rfl) rfl rfl (fun K hK => ?_)
              go_simp
              refine hK _ _ ?_
              clear hK K
              try simp only [Act.put, LT1, LT2, LT3]
              refine Gl.wpAny_only (i := 10) (by kernel_rfl) rfl rfl (fun K hK => ?_)
              go_simp
              refine hK _ _ ?_
              clear hK K
              try simp only [Act.put, LT1, LT2, LT3]
              refine wpAny_done (by kernel_rfl) ?_ _
              go_wp2_with fail
              rw [← HS0Q.out]
              go_meet
              case rel => exact ⟨rfl, HA⟩
        case rest => as_aux_lemma =>
          obtain ⟨rfl, HC⟩ := hcut
          clear y18 z18 hcv HA hcat hpl HS0Q HKJ HK y8
          go_upto_if 40 with (fail)
          go_cut [7] (fun S wc => S = .string s ∧ Hid (DX g P d sv lv wc ∧ DFr g sv0 lv sv lv W wc))
          case first => as_aux_lemma =>
            rcases show kd = 2 ∨ kd = 3 by omega with hk2' | hk3'
            · have b3 : ((kd : Int) == 3) = false := by simpa using (show ¬ (kd : Int) = 3 by omega)
              obtain rfl := HS0.out hk2'
              clear hk2' HS0
              go_wp2_with fail
              go_meet
              case rel => exact ⟨rfl, HC⟩
            · have b3 : ((kd : Int) == 3) = true := by simpa using (show (kd : Int) = 3 by omega)
              obtain ⟨ip, hip⟩ : ∃ x, x = ((d.T n).vals i).ip := ⟨_, rfl⟩
              obtain ⟨po, hpo, hpo2, hip2, HSB⟩ : ∃ q : Nat, ((d.T n).vals i).port = q ∧ q ≤ 65535 ∧ ip < 4294967296 ∧ Hid (s = ⟨(bytesL ip q).toArray⟩) := by
                rcases HVK.out with ⟨h1, _⟩ | ⟨_, _, h2, q, h3, h4⟩
                · omega
                · refine ⟨q, h3, h4, by rw [hip]; exact h2, hide ?_⟩
                  have := HSD.out
                  unfold bytesV at this
                  rw [if_pos hk3', h3, ← hip, Int.toNat_natCast] at this
                  rw [← this]
              have HAB := fun w => addrBytes_any ip hip2 po hpo2 w
              rw [← HSB.out] at HAB
              have HCD := hide (HC.out.1.on (Below.refl _ wc).drew)
              have HFD := hide (HC.out.2.trans (DFr.of sv lv (Below.refl _ wc).drew))
              have z1 : wc.drew.cell? ⟨g, 783 + n * 31 + 18 + i * 3 + 1, none⟩ = some (.int .u32 (ip : Nat)) := by rw [show 783 + n * 31 + 18 + i * 3 + 1 = 783 + n * 31 + (18 + i * 3 + 1) by omega, HCD.out.th n (18 + i * 3 + 1) hn (by omega), (cellDT_val _ _ _ hlt).2.1, hip]
              have z2 : wc.drew.cell? ⟨g, 783 + n * 31 + 18 + i * 3 + 2, none⟩ = some (.int .i64 (po : Nat)) := by rw [show 783 + n * 31 + 18 + i * 3 + 2 = 783 + n * 31 + (18 + i * 3 + 2) by omega, HCD.out.th n (18 + i * 3 + 2) hn (by omega), (cellDT_val _ _ _ hlt).2.2, hpo]
              clear hk3' HS0 HSB hip hpo HVK
              go_wp2_with fail
              refine wp_region_any (by kernel_rfl) ?_
              change wpAny _ _ _ _ _ _ _ (World.drew _)
              refine Gl.wpAny_takeOf 0 (some 41) (Value.pointer (some ⟨g, 783 + n * 31, none⟩)) rfl rfl (by kernel_rfl) (by kernel_rfl) (by kernel_rfl) (fun _ _ _ h => h) (Or.inl ⟨by rfl, ?_⟩) ?_
              · intro wx
                go_simp
              try simp only [Act.put, LT1, LT2, LT3]
              refine Gl.wpAny_takeOf 1 (some 42) (.int .i64 i) rfl rfl (by kernel_rfl) (by kernel_rfl) (by kernel_rfl) (fun _ _ _ h => h) (Or.inl ⟨by rfl, ?_⟩) ?_
              · intro wx
                go_simp
              try simp only [Act.put, LT1, LT2, LT3]
              refine Gl.wpAny_takeOf 2 (some 43) (Value.pointer (some ⟨g, 783 + n * 31, none⟩)) rfl rfl (by kernel_rfl) (by kernel_rfl) (by kernel_rfl) (fun _ _ _ h => h) (Or.inl ⟨by rfl, ?_⟩) ?_
              · intro wx
                go_simp
              try simp only [Act.put, LT1, LT2, LT3]
              refine Gl.wpAny_takeOf 3 (some 44) (Value.pointer (some ⟨g, 783 + n * 31 + 18, none⟩)) rfl rfl (by kernel_rfl) (by kernel_rfl) (by kernel_rfl) (fun _ _ _ h => h) (Or.inl ⟨by rfl, ?_⟩) ?_
              · intro wx
                go_simp
              try simp only [Act.put, LT1, LT2, LT3]
              refine Gl.wpAny_takeOf 4 (some 45) (Value.pointer (some ⟨g, 783 + n * 31 + 18 + i * 3, none⟩)) rfl rfl (by kernel_rfl) (by kernel_rfl) (by kernel_rfl) (fun _ _ _ h => h) (Or.inl ⟨by rfl, ?_⟩) ?_
              · intro wx
                go_simp
              try simp only [Act.put, LT1, LT2, LT3]
              refine Gl.wpAny_takeOf 5 (some 46) (Value.pointer (some ⟨g, 783 + n * 31 + 18 + i * 3 + 1, none⟩)) rfl rfl (by kernel_rfl) (by kernel_rfl) (by kernel_rfl) (fun _ _ _ h => h) (Or.inl ⟨by rfl, ?_⟩) ?_
              · intro wx
                go_simp
              try simp only [Act.put, LT1, LT2, LT3]
              refine Gl.wpAny_takeOf 7 (some 48) (Value.pointer (some ⟨g, 783 + n * 31, none⟩)) rfl rfl (by kernel_rfl) (by kernel_rfl) (by kernel_rfl) (fun _ _ _ h => h) (Or.inl ⟨by rfl, ?_⟩) ?_
              · intro wx
                go_simp
              try simp only [Act.put, LT1, LT2, LT3]
              refine Gl.wpAny_takeOf 8 (some 49) (.int .i64 i) rfl rfl (by kernel_rfl) (by kernel_rfl) (by kernel_rfl) (fun _ _ _ h => h) (Or.inl ⟨by rfl, ?_⟩) ?_
              · intro wx
                go_simp
              try simp only [Act.put, LT1, LT2, LT3]
              refine Gl.wpAny_takeOf 9 (some 50) (Value.pointer (some ⟨g, 783 + n * 31, none⟩)) rfl rfl (by kernel_rfl) (by kernel_rfl) (by kernel_rfl) (fun _ _ _ h => h) (Or.inl ⟨by rfl, ?_⟩) ?_
              · intro wx
                go_simp
              try simp only [Act.put, LT1, LT2, LT3]
              refine Gl.wpAny_takeOf 10 (some 51) (Value.pointer (some ⟨g, 783 + n * 31 + 18, none⟩)) rfl rfl (by kernel_rfl) (by kernel_rfl) (by kernel_rfl) (fun _ _ _ h => h) (Or.inl ⟨by rfl, ?_⟩) ?_
              · intro wx
                go_simp
              try simp only [Act.put, LT1, LT2, LT3]
              refine Gl.wpAny_takeOf 11 (some 52) (Value.pointer (some ⟨g, 783 + n * 31 + 18 + i * 3, none⟩)) rfl rfl (by kernel_rfl) (by kernel_rfl) (by kernel_rfl) (fun _ _ _ h => h) (Or.inl ⟨by rfl, ?_⟩) ?_
              · intro wx
                go_simp
              try simp only [Act.put, LT1, LT2, LT3]
              refine Gl.wpAny_takeOf 12 (some 53) (Value.pointer (some ⟨g, 783 + n * 31 + 18 + i * 3 + 2, none⟩)) rfl rfl (by kernel_rfl) (by kernel_rfl) (by kernel_rfl) (fun _ _ _ h => h) (Or.inl ⟨by rfl, ?_⟩) ?_
              · intro wx
                go_simp
              try simp only [Act.put, LT1, LT2, LT3]
              refine wpAny_two (i := 6) (j := 13) (by kernel_rfl) rfl rfl rfl rfl (fun K hK => ?_) (fun K hK => ?_)
              · go_simp
                refine hK _ _ ?_
                clear hK K
                try simp only [Act.put, LT1, LT2, LT3]
                refine Gl.wpAny_only (i := 13) (by kernel_rfl) rfl rfl (fun K hK => ?_)
                go_simp
                refine hK _ _ ?_
                clear hK K
                try simp only [Act.put, LT1, LT2, LT3]
                refine Gl.wpAny_only (i := 14) (by kernel_rfl) rfl rfl (fun K hK => ?_)
                refine Gl.wp_callOf 99 #[.int .u32 (ip : Nat), .int .i64 (po : Nat)] (by kernel_rfl) (HAB wc.drew) ?_
                rintro e X ⟨rfl, hX⟩
                have HD := hide (HCD.out.on hX)
                have HF := hide (HFD.out.trans (DFr.of sv lv hX))
                clear hX
                refine ⟨_, rfl, hK _ _ ?_⟩
                clear hK K
                try simp only [Act.put, LT1, LT2, LT3]
                refine Gl.wpAny_only (i := 15) (by kernel_rfl) rfl rfl (fun K hK => ?_)
                go_simp
                refine hK _ _ ?_
                clear hK K
                try simp only [Act.put, LT1, LT2, LT3]
                refine wpAny_done (by kernel_rfl) ?_ _
                go_wp2_with fail
                go_meet
                case rel => exact ⟨rfl, hide ⟨HD.out, HF.out⟩⟩
              · go_simp
                refine hK _ _ ?_
                clear hK K
                try simp only [Act.put, LT1, LT2, LT3]
                refine Gl.wpAny_only (i := 6) (by kernel_rfl) rfl rfl (fun K hK => ?_)
                go_simp
                refine hK _ _ ?_
                clear hK K
                try simp only [Act.put, LT1, LT2, LT3]
                refine Gl.wpAny_only (i := 14) (by kernel_rfl) rfl rfl (fun K hK => ?_)
                refine Gl.wp_callOf 99 #[.int .u32 (ip : Nat), .int .i64 (po : Nat)] (by kernel_rfl) (HAB wc.drew) ?_
                rintro e X ⟨rfl, hX⟩
                have HD := hide (HCD.out.on hX)
                have HF := hide (HFD.out.trans (DFr.of sv lv hX))
                clear hX
                refine ⟨_, rfl, hK _ _ ?_⟩
                clear hK K
                try simp only [Act.put, LT1, LT2, LT3]
                refine Gl.wpAny_only (i := 15) (by kernel_rfl) rfl rfl (fun K hK => ?_)
                go_simp
                refine hK _ _ ?_
                clear hK K
                try simp only [Act.put, LT1, LT2, LT3]
                refine wpAny_done (by kernel_rfl) ?_ _
                go_wp2_with fail
                go_meet
                case rel => exact ⟨rfl, hide ⟨HD.out, HF.out⟩⟩
          case rest => as_aux_lemma =>
            obtain ⟨rfl, HC⟩ := hcut
            clear HS0 HVK
            obtain ⟨X, hX⟩ : ∃ X, X = wc := ⟨_, rfl⟩
            rw [← hX] at HC
            rw [← hX]
            have HD := hide HC.out.1
            have HF := hide HC.out.2
            clear HC hX
            obtain ⟨fq, hfq⟩ : ∃ f, f = freeQ d.mem := ⟨_, rfl⟩
            cases fq with
            | none => as_aux_lemma =>
              have HSL := (show Calls Tryz.prog 100 #[.pointer (some ⟨g, 3, none⟩), .string s] X fun e w' => e = .returned (.tuple #[.int .u64 0, .int .i64 9]) ∧ Vr.IsD (LD g P d.T sv lv) d.mem w' ∧ X.grownBy w' (some g) from Vr.dseal_full HD.out.mem hfq.symm s hs64)
              have HV := hide (show R = dend n 2 12 zeroVS d by rw [← HHIT.out]; exact dsealL_full hfq.symm)
              clear hfq
              go_wp2_with fail
              refine HSL.mono ?_
              rintro e Y ⟨rfl, hm, hg⟩
              have HY := hide (show DX g P d sv lv Y from HD.out.memo hm hg)
              have HFY := hide (HF.out.trans (DFr.grown sv lv hg))
              clear hm hg HSL
              have HE := dend2 n hn 12 HY.out HI.out.2.2.2.2.1 ⟨by have := HI.out.2.2.1; omega, HI.out.2.2.2.1⟩
              go_wp2_with fail
              refine HE.mono ?_
              rintro e w' hG
              obtain ⟨rfl, h1⟩ := DGoes.from HFY.out hG
              clear hG
              go_wp2
              go_end0
              rw [HV.out]
              exact ⟨rfl, h1⟩
            | some q => as_aux_lemma =>
              obtain ⟨hq8, hq12, _, _⟩ := freeQ_some hfq.symm
              have HSL := (show Calls Tryz.prog 100 #[.pointer (some ⟨g, 3, none⟩), .string s] X fun e w' => e = .returned (.tuple #[.int .u64 ((q * 64 : Nat) : Int), .int .i64 0]) ∧ Vr.IsD (LD g P d.T sv lv) (sealM d.mem q s.data.toList) w' ∧ X.grownBy w' (some g) from Vr.dseal_ok HD.out.mem hfq.symm s hs64)
              obtain ⟨a, ha⟩ : ∃ a, a = q * 64 := ⟨_, rfl⟩
              obtain ⟨d1, hd1⟩ : ∃ d1 : DWS, d1 = ⟨d.T, sealM d.mem q s.data.toList, d.log⟩ := ⟨_, rfl⟩
              have HV := hide (show dsealL n (remL nr (i + 1)) (d1.put n { d.T n with now := updF (d.T n).now i a, seals := (d.T n).seals ++ [a] }) = R by
                rw [← HHIT.out, dsealL_hit hfq.symm, ha, hd1, HSD.out, HI.out.1, ← HKD.out]
                rfl)
              have ha64 : a < 18446744073709551616 := by omega
              rw [← ha] at HSL
              have HT1 := hide (show d1.T = d.T by rw [hd1])
              have HL1 := hide (show d1.log = d.log by rw [hd1])
              have HDM := fun Y (hm : Vr.IsD (LD g P d.T sv lv) (sealM d.mem q s.data.toList) Y) (hg : X.grownBy Y (some g)) => (show DX g P d1 sv lv Y from by rw [hd1]; exact HD.out.memo hm hg)
              clear hfq hd1 ha
              go_wp2_with fail
              refine HSL.mono ?_
              rintro e Y ⟨rfl, hm, hg⟩
              have HY := hide (HDM Y hm hg)
              have HFY := hide (HF.out.trans (DFr.grown sv lv hg))
              clear hm hg HSL HDM
              obtain ⟨v0, hv0⟩ : ∃ v, v = sv n := ⟨_, rfl⟩
              obtain ⟨L0, hL0⟩ : ∃ m, m = (d.T n).seals.length := ⟨_, rfl⟩
              have hL4 : L0 ≤ 4 := by rw [hL0]; have := HI.out.2.2.1; omega
              have c30 : Y.cell? ⟨g, 783 + n * 31 + 30, none⟩ = some v0 := by rw [hv0]; exact HY.out.th n 30 hn (by omega)
              have hYg := HY.out.glt
              obtain ⟨inf, hi0, hz0, hz1, hz2⟩ := u64_info
              have hA := HY.out.on (box_below Y (.cells #[.int .u64 (a : Nat)] 42))
              have c30a : (Y.alloc (.cells #[.int .u64 (a : Nat)] 42)).cell? ⟨g, 783 + n * 31 + 30, none⟩ = some v0 := by rw [hv0]; exact hA.th n 30 hn (by omega)
              have HOA := hide (show (Y.alloc (.cells #[.int .u64 (a : Nat)] 42)).ownsRow 0 42 1 v0 L0 (u64L (d.T n).seals) by have := hA.sls n hn; rw [HT1.out] at this; rw [hv0, hL0]; exact this)
              have HNB := hide (show (Y.alloc (.cells #[.int .u64 (a : Nat)] 42)).heap[Y.heap.size]? = some (.cells #[.int .u64 (a : Nat)] 42 (0, 0)) from heap_alloc_new Y _)
              have HCF : Hid (∀ w2 : World, (Y.alloc (.cells #[.int .u64 (a : Nat)] 42)).grownBy w2 v0.ownBlock → w2.cell? ⟨g, 783 + n * 31 + 30, none⟩ = some v0 ∧ w2.frozen? ⟨g, 783 + n * 31 + 30, none⟩ = false) := hide (fun w2 hgrow => by
                obtain ⟨rr, hrr, _⟩ := hA.mem
                have hB : w2.heap[g]? = (Y.alloc (.cells #[.int .u64 (a : Nat)] 42)).heap[g]? := hgrow.block g hA.glt (fun e => hA.nl.2 n hn (by rw [← hv0]; exact e.symm))
                exact ⟨(cell_heap hB _).trans c30a, frozen_of_row _ _ _ _ _ (hB.trans hrr)⟩)
              have HFIN : Hid (∀ (gg cap1 : Nat) (w2 : World), w2.ownsRow 0 42 1 (.slice (some ⟨gg, 0, none⟩) (L0 + 1) cap1) (L0 + 1) (u64L (d.T n).seals ++ [.int .u64 (a : Nat)]) → (Y.alloc (.cells #[.int .u64 (a : Nat)] 42)).grownBy w2 v0.ownBlock → (v0.ownBlock = some gg ∨ gg = Y.heap.size + 1) →
                  DX g P (d1.put n { d.T n with seals := (d.T n).seals ++ [a] }) (updF sv n (.slice (some ⟨gg, 0, none⟩) (L0 + 1) cap1)) lv (w2.setCell ⟨g, 783 + n * 31 + 30, none⟩ (.slice (some ⟨gg, 0, none⟩) (L0 + 1) cap1)) ∧ DFr g sv0 lv (updF sv n (.slice (some ⟨gg, 0, none⟩) (L0 + 1) cap1)) lv W (w2.setCell ⟨g, 783 + n * 31 + 30, none⟩ (.slice (some ⟨gg, 0, none⟩) (L0 + 1) cap1))) := hide (fun gg cap1 w2 ho hgw hat => by
                have hm := hA.seals n hn (l := (d.T n).seals ++ [a]) (v' := .slice (some ⟨gg, 0, none⟩) (L0 + 1) cap1) (by rw [← hv0]; exact hgw) (fun b hb => by
                  simp only [Value.ownBlock, Option.some.injEq] at hb
                  subst hb
                  rw [← hv0]
                  rcases hat with h | h
                  · exact .inl h
                  · refine .inr ?_
                    rw [h, World.size_alloc]
                    exact Nat.le_refl _) (by rw [List.length_append, List.length_singleton, u64L_snoc, ← hL0]; exact ho)
                rw [show d1.T n = d.T n from congrFun HT1.out n] at hm
                exact ⟨hm.1, HFY.out.trans ((DFr.of sv lv (box_below Y _)).trans hm.2)⟩)
              have HFI2 : Hid (∀ (gg cap1 : Nat) (w2 : World), DX g P (d1.put n { d.T n with seals := (d.T n).seals ++ [a] }) (updF sv n (.slice (some ⟨gg, 0, none⟩) (L0 + 1) cap1)) lv (w2.setCell ⟨g, 783 + n * 31 + 30, none⟩ (.slice (some ⟨gg, 0, none⟩) (L0 + 1) cap1)) → DFr g sv0 lv (updF sv n (.slice (some ⟨gg, 0, none⟩) (L0 + 1) cap1)) lv W (w2.setCell ⟨g, 783 + n * 31 + 30, none⟩ (.slice (some ⟨gg, 0, none⟩) (L0 + 1) cap1)) →
                  (w2.setCell ⟨g, 783 + n * 31 + 30, none⟩ (.slice (some ⟨gg, 0, none⟩) (L0 + 1) cap1)).cell? ⟨g, 783 + n * 31 + 9 + i, none⟩ = some (.int .u64 ((d.T n).now i : Nat)) ∧ (w2.setCell ⟨g, 783 + n * 31 + 30, none⟩ (.slice (some ⟨gg, 0, none⟩) (L0 + 1) cap1)).frozen? ⟨g, 783 + n * 31 + 9 + i, none⟩ = false ∧
                  Hid (DX g P (d1.put n { d.T n with now := updF (d.T n).now i a, seals := (d.T n).seals ++ [a] }) (updF sv n (.slice (some ⟨gg, 0, none⟩) (L0 + 1) cap1)) lv ((w2.setCell ⟨g, 783 + n * 31 + 30, none⟩ (.slice (some ⟨gg, 0, none⟩) (L0 + 1) cap1)).setCell ⟨g, 783 + n * 31 + 9 + i, none⟩ (.int .u64 (a : Nat)))) ∧
                  Hid (DFr g sv0 lv (updF sv n (.slice (some ⟨gg, 0, none⟩) (L0 + 1) cap1)) lv W ((w2.setCell ⟨g, 783 + n * 31 + 30, none⟩ (.slice (some ⟨gg, 0, none⟩) (L0 + 1) cap1)).setCell ⟨g, 783 + n * 31 + 9 + i, none⟩ (.int .u64 (a : Nat))))) := hide (fun gg cap1 w2 h1 h2 => by
                refine ⟨by rw [Nat.add_assoc (783 + n * 31), h1.th n (9 + i) hn (by omega), T_dput, cellDT_now _ _ _ hlt], h1.fro _, hide ?_, hide (h2.trans (DFr.set (g := g) _ lv _ _ _))⟩
                exact h1.setPA (9 + i) hn (by omega) (783 + n * 31 + 9 + i) (by omega) (.int .u64 (a : Nat)) { d.T n with now := updF (d.T n).now i a, seals := (d.T n).seals ++ [a] } rfl (fun j hj => cellDT_now' { d.T n with seals := (d.T n).seals ++ [a] } _ i a hlt j hj))
              have HLQ := hide hL0
              clear hA hv0 hL0 HY HFY HD HF
              go_wp2_with (first
                | (refine wpList_append_lies _ rfl _ _ _ rfl 0 42 inf _ 1 8 Tryz.underlying90 hi0 hz0 hz1 hz2 rfl (by omega) v0 L0 (u64L (d.T n).seals) rfl HOA.out ⟨Y.heap.size, 0, none⟩ 1 1 [.int .u64 (a : Nat)] rfl rfl (World.news_of_block HNB.out) (by intro u hu; simp only [List.mem_singleton] at hu; subst hu; rfl) (by omega) (by simp only [maxLen]; omega) (by omega) (by omega) (Y.heap.size + 1) (by rw [World.size_alloc]) ?_
                   intro gg cap1 w2 hown1 hgrow hat hltt
                   have HX := hide (HFIN.out gg cap1 w2 hown1 hgrow hat)
                   obtain ⟨cE, fE⟩ := HCF.out w2 hgrow
                   obtain ⟨c9, f9, HX2, HFX2⟩ := HFI2.out gg cap1 w2 HX.out.1 HX.out.2
                   clear hown1 hgrow hat hltt))
              go_round
              case rel => exact ⟨i + 1, _, _, by omega, by go_num, HX2, HFX2, hide ⟨by rw [T_dput]; exact HI.out.1, fun j hj => by rw [T_dput]; exact HI.out.2.1 j (by omega), by rw [T_dput]; show ((d.T n).seals ++ [a]).length ≤ _; rw [List.length_append, List.length_singleton]; have := HI.out.2.2.1; omega, by rw [T_dput]; intro x hx; rcases List.mem_append.1 (show x ∈ (d.T n).seals ++ [a] from hx) with h1 | h1; (· exact HI.out.2.2.2.1 x h1); (· rw [List.mem_singleton.1 h1]; exact ha64), by show d1.log.length ≤ _; rw [HL1.out]; exact HI.out.2.2.2.2.1, HV.out⟩⟩
              case measure => simp [intOf]; omega
      · as_aux_lemma =>
        have hk2n : (kd : Int) < 2 := by omega
        have HV := hide (show (d.T n).asked.nr = nr ∧ SealV (d.T n) (i + 1) ∧ (d.T n).seals.length ≤ i + 1 ∧ (∀ x ∈ (d.T n).seals, x < 18446744073709551616) ∧ d.log.length ≤ 1000000 ∧ dsealL n (remL nr (i + 1)) d = R from ⟨HI.out.1, fun j hj => HI.out.2.1 j (by omega), by have := HI.out.2.2.1; omega, HI.out.2.2.2.1, HI.out.2.2.2.2.1, by rw [← remL_miss hlt (by rw [← hkd]; exact hk2)]; exact HI.out.2.2.2.2.2⟩)
        clear hkd hk2 HI
        go_wp2_with (go_at_call 44; refine (HKJ _).mono ?_; rintro e w' ⟨rfl, hw⟩; rw [hw]; clear hw w')
        go_round
        case rel => exact ⟨i + 1, d, sv, by omega, by go_num, HD, HF, HV⟩
        case measure => simp [intOf]; omega
    · as_aux_lemma =>
      have hl : ¬ (i : Int) < 4 := by omega
      have h4 : i = 4 := by omega
      have HV := hide (show R = d.put n { d.T n with phase := 5 } by rw [← HI.out.2.2.2.2.2, h4, remL_end]; rfl)
      have cp := HD.out.phase n hn
      have fp := HD.out.fro (783 + n * 31)
      have HS := hide (HD.out.setPhase n 5 hn)
      clear h4 hlt HI
      go_wp2
      go_end0
      rw [HV.out]
      exact ⟨rfl, sv, lv, HS.out, HF.out.trans (DFr.set sv lv _ _ _)⟩
end Go.Proofs.YtklibmijiecbfaaGreat
