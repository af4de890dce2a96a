/- asMem, the document's memory at an offset; SameLog of a log that was copied. -/
import Derived.Test.YtklibmijiecbfaaGreatK13
import Derived.Test.YtklibmijiecbfaaGreatK39
namespace Go.Proofs.YtklibmijiecbfaaGreat
open Go.RowKit Mm

theorem both_peek (o : Option Nat) : ∃ f x : Nat, byteV o = .tuple #[.int .u8 (x : Nat), errV f] ∧ rbyteV o = .tuple #[.int .u8 (x : Nat), .int .i64 (f : Nat)] := by
 cases o with
 | none => exact ⟨5, 0, rfl, rfl⟩
 | some x => exact ⟨0, x, rfl, rfl⟩
set_option maxRecDepth 20000 in
theorem asMemD_any {L : Vr.LY} {m : MS} {g : Nat} (hne : g ≠ L.g) {W : World} (hM : IsM g m W) (hD : Vr.IsD L m W) :
  Calls Tryz.prog 41 #[.pointer (some ⟨g, 0, none⟩), .pointer (some ⟨L.g, L.o, none⟩)] W fun e w' => e = .returned (.bool true) ∧ IsM g m w' ∧ Vr.IsD L m w' ∧ Kp g L.g W w' := by
 have HS : CodeC 72 #[.pointer (some ⟨g, 0, none⟩)] g m m (.int .i64 (cntM m 4 : Nat)) := codeC_of (args := fun g => #[.pointer (some ⟨g, 0, none⟩)]) fun B => sealed_any B m 0
 have HT := fun X (h : Vr.IsD L m X) => Vr.dsealed_any h
 have hc4 : cntM m 4 ≤ 4 := cntM_le m 4
 obtain ⟨x, hx⟩ : ∃ x, x = cntM m 4 := ⟨_, rfl⟩
 rw [← hx] at HS hc4
 simp only [← hx] at HT
 obtain ⟨gd, hgd⟩ : ∃ x, x = L.g := ⟨_, rfl⟩
 obtain ⟨od, hod⟩ : ∃ x, x = L.o := ⟨_, rfl⟩
 have HB := fun (a : Nat) (ha : a < 18446744073709551616) X (h : Vr.IsD L m X) => Vr.dbyte_any h a ha
 simp only [← hgd, ← hod] at HT HB
 rw [← hgd] at hne
 rw [← hgd, ← hod]
 have HNE := hide hne
 have HGD := hide hgd
 clear hx hgd hod
 go_enter Tryz.func41, Tryz.ntmps41
 go_wp2_with fail
 refine (HS _ hM).mono ?_
 rintro e w1 ⟨rfl, hM1, hg1⟩
 have hR1 := hide (show Vr.IsD L m w1 from hD.imp fun r hr => ⟨(hg1.block L.g hD.lt (fun e => HNE.out (by rw [HGD.out]; exact (Option.some.inj e).symm))).trans hr.1, hr.2⟩)
 replace hM1 := hide hM1
 have hK1 := hide (Kp.ofG (h := gd) hg1)
 clear hg1 hM hD
 go_wp2_with fail
 refine (HT _ hR1.out).mono ?_
 rintro e w2 ⟨rfl, hR2, hg2⟩
 have hM2 := hide (hM1.out.keep hg2 HNE.out)
 replace hR2 := hide hR2
 have hK2 := hide (hK1.out.trans (Kp.ofH (g := g) hg2))
 clear hg2 hK1 hM1 hR1 HS HT
 go_wp2
 go_loopw [5] (fun A wr => ∃ a : Nat, a ≤ 768 ∧ A = .int .u64 a ∧ wr = w2) (fun A _ => 768 - (intOf A).toNat)
 case atStart => exact ⟨0, by omega, rfl, rfl⟩
 case round =>
  obtain ⟨a, ha, rfl, rfl⟩ := hrel
  by_cases hlt : a < 768
  ·
   have HC := byte_isM hM2.out a (by omega)
   have HD := HB a (by omega) wr hR2.out
   obtain ⟨f, y, h1, h2⟩ := both_peek (peek m a)
   rw [h1] at HC
   rw [h2] at HD
   clear h1 h2
   go_wp2_with fail
   refine HC.mono ?_
   rintro e w3 ⟨rfl, hw3⟩
   rw [hw3]
   clear hw3 w3
   go_wp2_with fail
   refine HD.mono ?_
   rintro e w4 ⟨rfl, hw4⟩
   rw [hw4]
   clear hw4 w4 HC HD
   go_wp2_with fail
   refine (same_err f _).mono ?_
   rintro e w' ⟨rfl, rfl⟩
   go_wp2
   go_round
   case rel => exact ⟨a + 1, by omega, by go_num, trivial⟩
   case measure => simp [intOf]; omega
  ·
   obtain rfl : a = 768 := by omega
   go_wp2
   go_ret
   exact ⟨rfl, hM2.out, hR2.out, hK2.out⟩
theorem log_owned {W : World} {v : Value} {l : List EN} (h : W.ownsRow 0 70 21 v l.length (flatE l)) : ∃ o cap, v = .slice o l.length cap ∧ (0 < l.length → ∃ b, o = some ⟨b, 0, none⟩ ∧ b < W.heap.size ∧ ∀ i e, l[i]? = some e → W.rangeAt b (i * 21) (entE e).toList) := by
 rcases h.2 with ⟨rfl, h0⟩ | ⟨b, cap, cur, rfl, -, hrow, -, -, -, htk⟩
 ·
  exact ⟨none, 0, by rw [h0], fun hi => by omega⟩
 ·
  refine ⟨some ⟨b, 0, none⟩, cap, rfl, fun _ => ⟨b, rfl, (Array.getElem?_eq_some_iff.1 hrow).1, fun i e he j v hv => ?_⟩⟩
  have hi : i < l.length := (List.getElem?_eq_some_iff.1 he).1
  have hj : j < 21 := (List.getElem?_eq_some_iff.1 hv).1
  rw [cell_of_row _ _ _ _ _ _ hrow]
  have h1 := flatE_get l i e j he hj
  rw [hv, ← htk, List.getElem?_take, if_pos (by omega)] at h1
  simpa using h1
set_option maxHeartbeats 2000000 in
set_option maxRecDepth 20000 in
theorem sameLog2_any (l : List EN) (bA : Nat) (w : World) (hA : w.heap[bA]? = some (.cells (flatE l).toArray 70 (0, 0))) (lv : Value) (hown : w.ownsRow 0 70 21 lv l.length (flatE l)) (hl : l.length ≤ 1000000) :
  Calls Tryz.prog 40 #[.slice (some ⟨bA, 0, none⟩) l.length l.length, lv] w fun e w' => e = .returned (.bool true) ∧ Below w.heap.size w w' := by
 obtain ⟨oB, cB, hlv, hB⟩ := log_owned hown
 subst hlv
 clear hown
 obtain ⟨L, hL⟩ : ∃ x, x = l.length := ⟨_, rfl⟩
 rw [← hL] at hl
 rw [← hL]
 have HL := hide hL
 have HA := hide hA
 have HBB := hide hB
 clear hL hA hB
 go_enter Tryz.func40, Tryz.ntmps40
 go_wp2
 go_loopw [5] (fun I w' => ∃ j : Nat, j ≤ L ∧ I = .int .i64 j ∧ Hid (Below w.heap.size w w')) (fun I _ => L - (intOf I).toNat)
 case atStart => exact ⟨0, by omega, rfl, hide (Below.refl _ _)⟩
 case round =>
  obtain ⟨j, hj, rfl, HB⟩ := hrel
  have t1 : (0 : Int) ≤ j := by omega
  by_cases hlj : j < L
  ·
   have t2 : (j : Int) < L := by omega
   obtain ⟨en, hen⟩ : ∃ e, l[j]? = some e := ⟨_, List.getElem?_eq_getElem (by rw [← HL.out]; exact hlj)⟩
   have rgA : wr.drew.rangeAt bA (j * 21) (entE en).toList := log_range (W := wr.drew) ((HB.out.block _ (Array.getElem?_eq_some_iff.1 HA.out).1).trans HA.out) hen
   obtain ⟨bB, rfl, hbl, hbr⟩ := HBB.out (by rw [← HL.out]; omega)
   have rgB : wr.drew.rangeAt bB (j * 21) (entE en).toList := fun q v hv => keep_cell (show Below w.heap.size w wr.drew from below_next HB.out (Below.refl _ _).drew) (hbr j en hen q v hv)
   clear hbr
   clear hen
   go_wp2_with fail
   refine wp_region_any (by kernel_rfl) ?_
   change wpAny _ _ _ _ _ _ _ (World.drew _)
   refine Gl.wpAny_takeOf 0 (some 17) (.slice (some ⟨bA, 0, none⟩) L L) rfl rfl (by kernel_rfl) (by kernel_rfl) (by kernel_rfl) (fun _ _ _ h => h) (Or.inl ⟨by rfl, ?_⟩) ?_
   ·
    intro wx
    go_simp
   try simp only [Act.put, LT1, LT2, LT3]
   refine Gl.wpAny_takeOf 1 (some 18) (.int .i64 (j : Nat)) rfl rfl (by kernel_rfl) (by kernel_rfl) (by kernel_rfl) (fun _ _ _ h => h) (Or.inl ⟨by rfl, ?_⟩) ?_
   ·
    intro wx
    go_simp
   try simp only [Act.put, LT1, LT2, LT3]
   refine Gl.wpAny_takeOf 2 (some 19) (Value.pointer (some ⟨bA, j * 21, none⟩)) rfl rfl (by kernel_rfl) (by kernel_rfl) (by kernel_rfl) (fun _ _ _ h => h) (Or.inl ⟨by rfl, ?_⟩) ?_
   ·
    intro wx
    go_simp
   try simp only [Act.put, LT1, LT2, LT3]
   refine Gl.wpAny_takeOf 4 (some 21) (.slice (some ⟨bB, 0, none⟩) L cB) rfl rfl (by kernel_rfl) (by kernel_rfl) (by kernel_rfl) (fun _ _ _ h => h) (Or.inl ⟨by rfl, ?_⟩) ?_
   ·
    intro wx
    go_simp
   try simp only [Act.put, LT1, LT2, LT3]
   refine Gl.wpAny_takeOf 5 (some 22) (.int .i64 (j : Nat)) rfl rfl (by kernel_rfl) (by kernel_rfl) (by kernel_rfl) (fun _ _ _ h => h) (Or.inl ⟨by rfl, ?_⟩) ?_
   ·
    intro wx
    go_simp
   try simp only [Act.put, LT1, LT2, LT3]
   refine Gl.wpAny_takeOf 6 (some 23) (Value.pointer (some ⟨bB, j * 21, none⟩)) rfl rfl (by kernel_rfl) (by kernel_rfl) (by kernel_rfl) (fun _ _ _ h => h) (Or.inl ⟨by rfl, ?_⟩) ?_
   ·
    intro wx
    go_simp
   try simp only [Act.put, LT1, LT2, LT3]
   refine wpAny_two (i := 3) (j := 7) (by kernel_rfl) rfl rfl rfl rfl (fun K hK => ?_) (fun K hK => ?_)
   ·
    refine wp_load_mid (P := Tryz.prog) 70 _ rfl bA (j * 21) rfl (entE en).toList _ rgA Tryz.underlying70 rfl size_entry ?_
    refine hK _ _ ?_
    clear hK K
    try simp only [Act.put, LT1, LT2, LT3]
    refine Gl.wpAny_only (i := 7) (by kernel_rfl) rfl rfl (fun K hK => ?_)
    refine wp_load_mid (P := Tryz.prog) 70 _ rfl bB (j * 21) rfl (entE en).toList _ rgB Tryz.underlying70 rfl size_entry ?_
    refine hK _ _ ?_
    clear hK K
    try simp only [Act.put, LT1, LT2, LT3]
    refine Gl.wpAny_only (i := 8) (by kernel_rfl) rfl rfl (fun K hK => ?_)
    refine wp_neq_self 70 _ _ _ rfl (entE en) rfl rfl (run_eqGuard_agg _ _ _ _ _ _ _ (by kernel_rfl)) (neq_entry en _) ?_
    refine hK _ _ ?_
    clear hK K
    try simp only [Act.put, LT1, LT2, LT3]
    refine wpAny_done (by kernel_rfl) ?_ _
    go_wp2
    go_round
    case rel => exact ⟨j + 1, by omega, by go_num, hide (below_next HB.out (Below.refl _ _).drew)⟩
    case measure => simp [intOf]; omega
   ·
    refine wp_load_mid (P := Tryz.prog) 70 _ rfl bB (j * 21) rfl (entE en).toList _ rgB Tryz.underlying70 rfl size_entry ?_
    refine hK _ _ ?_
    clear hK K
    try simp only [Act.put, LT1, LT2, LT3]
    refine Gl.wpAny_only (i := 3) (by kernel_rfl) rfl rfl (fun K hK => ?_)
    refine wp_load_mid (P := Tryz.prog) 70 _ rfl bA (j * 21) rfl (entE en).toList _ rgA Tryz.underlying70 rfl size_entry ?_
    refine hK _ _ ?_
    clear hK K
    try simp only [Act.put, LT1, LT2, LT3]
    refine Gl.wpAny_only (i := 8) (by kernel_rfl) rfl rfl (fun K hK => ?_)
    refine wp_neq_self 70 _ _ _ rfl (entE en) rfl rfl (run_eqGuard_agg _ _ _ _ _ _ _ (by kernel_rfl)) (neq_entry en _) ?_
    refine hK _ _ ?_
    clear hK K
    try simp only [Act.put, LT1, LT2, LT3]
    refine wpAny_done (by kernel_rfl) ?_ _
    go_wp2
    go_round
    case rel => exact ⟨j + 1, by omega, by go_num, hide (below_next HB.out (Below.refl _ _).drew)⟩
    case measure => simp [intOf]; omega
  ·
   have t2 : ¬ ((j : Int) < L) := by omega
   go_wp2
   go_ret
   exact ⟨rfl, HB.out⟩
end Go.Proofs.YtklibmijiecbfaaGreat
