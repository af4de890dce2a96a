/- seal. -/
import Derived.Test.YtlgghomjlhnijaaGreatK9
import Derived.Test.YtlgghomjlhnijaaGreatK8
import Derived.Test.YtlgghomjlhnijaaGreatK6
import Derived.Test.YtlgghomjlhnijaaGreatK7
import Derived.Laws.CopyRow
import Derived.Laws.OwnMore
import Derived.Test.YtlgghomjlhnijaaGreatK5
import Derived.BigQuiet
import Derived.Laws.AppendOwnNone
namespace Go.Proofs.YtlgghomjlhnijaaGreat
open Go.RowKit Mm

/-- Behind pointersOf, the ward turning. -/
structure SY (g gm : Nat) (P : PV) (s : WS) (lv : Value) (oa : Option Addr) (l : List Nat) (ka : Array Value) (r6 : Nat) (W X : World) : Prop where
  ward : WX g gm P s lv X
  ints : IsInts W.heap.size oa l X
  box : X.heap[r6]? = some (.cells ka 106 (0, 0))
  bd : W.heap.size ≤ r6
  fr : Fr g gm lv lv W X
theorem SX.y {g gm : Nat} {P : PV} {s : WS} {lv : Value} {oa : Option Addr} {l : List Nat} {ka : Array Value} {r6 : Nat} {W X : World} (h : SX g gm P s lv oa l ka r6 W X) : SY g gm P s lv oa l ka r6 W X := ⟨h.ward, h.ints, h.box, h.bd, Fr.of lv h.fr⟩
theorem SY.step {g gm : Nat} {P : PV} {s s' s0 : WS} {lv : Value} {oa : Option Addr} {l : List Nat} {ka : Array Value} {r6 : Nat} {W X Z : World} (h : SY g gm P s lv oa l ka r6 W X) (h0 : WX g gm P s0 lv W) (hw : WX g gm P s' lv Z) (hf : Fr g gm lv lv X Z) : SY g gm P s' lv oa l ka r6 W Z := by
  have hg := h0.glt
  have hm := h0.mlt
  have hl : ∀ k, W.heap.size ≤ k → lv.ownBlock ≠ some k := fun k hk e => by have := (h0.own.lt k e).2; omega
  have hb := h.bd
  exact ⟨hw, h.ints.heap (fun k h1 h2 => hf.block k h2 (by omega) (by omega) (hl k h1)) hf.size, (hf.block r6 (Array.getElem?_eq_some_iff.1 h.box).1 (by omega) (by omega) (hl r6 hb)).trans h.box, hb, h.fr.trans hf⟩
theorem SY.on {g gm : Nat} {P : PV} {s s0 : WS} {lv : Value} {oa : Option Addr} {l : List Nat} {ka : Array Value} {r6 : Nat} {W X Z : World} (h : SY g gm P s lv oa l ka r6 W X) (h0 : WX g gm P s0 lv W) (hb : Below X.heap.size X Z) : SY g gm P s lv oa l ka r6 W Z := h.step h0 (h.ward.on hb) (Fr.of lv hb)
theorem sealL_some (n i : Nat) (r : List Nat) (s : WS) {q : Nat} (h : freeQ s.mem = some q) : sealL n (i :: r) s = sealL n r ⟨updF s.T n { s.T n with args := updF (s.T n).args i (q * 64), sld := updF (s.T n).sld i true }, sealM s.mem q (bytesV (kindAt (s.T n).call.nr i) ((s.T n).vals i)), s.log⟩ := by
  conv => lhs; rw [sealL]
  rw [h]
theorem sealL_none (n i : Nat) (r : List Nat) (s : WS) (h : freeQ s.mem = none) : sealL n (i :: r) s = endS n 2 12 zeroVS s := by
  rw [sealL, h]
/-- What a thread is in the midst of sealing. -/
structure SM (n : Nat) (nr : Nat) (vals : Nat → VL) (s1 : WS) : Prop where
  nr : (s1.T n).call.nr = nr
  vals : (s1.T n).vals = vals
  log : s1.log.length ≤ 1000000
set_option maxHeartbeats 4000000 in
set_option maxRecDepth 20000 in
theorem seal_any {g gm : Nat} {P : PV} {s : WS} {lv : Value} {W : World} (n : Nat) (hn : n < 3) (hi : Inv P.p s) (hph : (s.T n).phase = 4) (h : WX g gm P s lv W) (hlog : s.log.length ≤ 1000000) :
    Calls Tryz.prog 34 #[.pointer (some ⟨g, 0, none⟩), .int .i64 n] W (Goes g gm P (sealS n s) lv W) := by
  have j1 : (0 : Int) ≤ n := by omega
  have j2 : (n : Int) < 3 := by omega
  have ht := hi.thr n hn
  have hnr := ht.trc (by omega) (by omega)
  have hvok := ht.vok (by omega) (by omega)
  rw [(ht.full (by omega) (by omega)).1, List.take_length] at hvok
  have HP := pts_some (s.T n).call hnr W
  unfold klV klC at HP
  have x1 := h.th n 1 hn (by omega)
  have x2 := h.th n 2 hn (by omega)
  have x3 := h.th n 3 hn (by omega)
  have x4 := h.th n 4 hn (by omega)
  have x5 := h.th n 5 hn (by omega)
  have x6 := h.th n 6 hn (by omega)
  rw [(cellT_call _).1] at x1
  rw [(cellT_call _).2.1] at x2
  rw [(cellT_call _).2.2.1] at x3
  rw [(cellT_call _).2.2.2.1] at x4
  rw [(cellT_call _).2.2.2.2.1] at x5
  rw [(cellT_call _).2.2.2.2.2] at x6
  have HSE := hide (show sealS n s = sealL n (ptsOf (s.T n).call.nr) s from rfl)
  have HVK : Hid (∀ i ∈ ptsOf (s.T n).call.nr, ValOk (kindAt (s.T n).call.nr i) ((s.T n).vals i)) := hide (fun i hi => (hvok i).1 hi)
  obtain ⟨nr, hnr'⟩ : ∃ x, x = (s.T n).call.nr := ⟨_, rfl⟩
  obtain ⟨vals, hvals⟩ : ∃ x, x = (s.T n).vals := ⟨_, rfl⟩
  have HM0 : Hid (SM n nr vals s) := hide ⟨hnr'.symm, hvals.symm, hlog⟩
  rw [← hnr'] at HP HSE HVK x2
  rw [← hvals] at HVK
  obtain ⟨ka, hka⟩ : ∃ k, k = kindsA nr := ⟨_, rfl⟩
  have hka4 : ka.size = 4 := by rw [hka]; rfl
  have hka1 : ka.all (·.oneCell') = true := by rw [hka]; exact kindsA_one _
  have HKA := hide hka
  rw [← hka] at HP
  obtain ⟨pts, hpts⟩ : ∃ l, l = ptsOf nr := ⟨_, rfl⟩
  have HPT := hide hpts
  rw [← hpts] at HP HSE HVK
  obtain ⟨L, hL⟩ : ∃ m, m = pts.length := ⟨_, rfl⟩
  have HL := hide hL
  have hL2 : L ≤ 2 := by rw [hL, hpts]; exact pts_few _
  rw [← hL] at HP
  have HH := hide h
  obtain ⟨G, hG⟩ : ∃ G, G = Goes g gm P (sealS n s) lv W := ⟨_, rfl⟩
  have HG : Hid (∀ lv' e w', e = .returned (.tuple #[]) → WX g gm P (sealL n pts s) lv' w' → Fr g gm lv lv' W w' → G e w') := hide (fun lv' e w' h1 h2 h3 => by rw [hG]; exact ⟨h1, lv', by rw [HSE.out]; exact h2, h3⟩)
  rw [← hG]
  clear h ht hi hka hpts hL hvok hph hlog hnr hnr' hvals hG HSE
  go_enter Tryz.func34, Tryz.ntmps34
  go_wp2_with fail
  refine HP.mono ?_
  rintro e Y ⟨⟨oa, cap, rfl, hcap, hcap2, hints⟩, hY⟩
  have HS := hide (SX.of ka #[.int .i64 0, .int .i64 0, .int .i64 0, .int .i64 0] HH.out hints hY).y
  obtain ⟨X, hX⟩ : ∃ X, X = (Y.alloc (.cells #[.int .i64 0, .int .i64 0, .int .i64 0, .int .i64 0] 106)).setRow Y.heap.size ka := ⟨_, rfl⟩
  rw [← hX] at HS
  clear HP x1 x2 x3 x4 x5 x6 hints
  go_wp2_with (refine wpList_store_row rfl 106 _ _ rfl Y.heap.size ka rfl rfl 106 _ (heap_alloc_new Y _) (by rw [hka4]; exact size_kinds) (by rw [hka4]; rfl) hka1 ?_; rw [← hX]; clear hX)
  obtain ⟨r6, hr6⟩ : ∃ r, r = Y.heap.size := ⟨_, rfl⟩
  rw [← hr6] at HS
  rw [← hr6]
  clear hr6 hY hka4 hka1
  go_loopw [26] (fun I w' => ∃ (i : Nat) (s1 : WS), i ≤ L ∧ I = .int .i64 i ∧ Hid (SY g gm P s1 lv oa pts ka r6 W w') ∧ Hid (SM n nr vals s1) ∧ Hid (sealL n pts s = sealL n (pts.drop i) s1)) (fun I _ => L - (intOf I).toNat)
  case atStart => exact ⟨0, s, by omega, rfl, HS, HM0, hide (by rw [List.drop_zero])⟩
  case round =>
    obtain ⟨i, s1, hi, rfl, HX, HM, HE⟩ := hrel
    clear HS
    by_cases hlt : i < L
    · obtain ⟨at_, hat⟩ : ∃ a, pts[i]? = some a := ⟨_, List.getElem?_eq_getElem (by rw [← HL.out]; exact hlt)⟩
      have hmem := List.mem_of_getElem? hat
      obtain ⟨_, hat4, hkind⟩ := pts_of (show at_ ∈ ptsOf nr by rw [← HPT.out]; exact hmem)
      have HVO := hide (HVK.out at_ hmem)
      have hdrop : pts.drop i = at_ :: pts.drop (i + 1) := by
        rw [List.drop_eq_getElem_cons (by rw [← HL.out]; exact hlt)]
        congr 1
        rw [List.getElem?_eq_getElem (by rw [← HL.out]; exact hlt)] at hat
        exact Option.some.inj hat
      rw [hdrop] at HE
      obtain ⟨b, off, rfl, hbw, hbl, hel⟩ := HX.out.ints.lie (by rw [← HL.out]; omega)
      have y0 := hel i at_ hat
      obtain ⟨k, hk⟩ : ∃ k, k = kindAt nr at_ := ⟨_, rfl⟩
      obtain ⟨⟨path, ip, port⟩, hvv⟩ : ∃ v, v = vals at_ := ⟨_, rfl⟩
      have y1 : wr.cell? ⟨r6, at_, none⟩ = some (.int .i64 (k : Nat)) := by rw [cell_of_row _ _ _ _ _ _ HX.out.box, HKA.out, hk]; exact kindsA_at _ _ hat4
      have hv3 := cellT_val (s1.T n) at_
      rw [HM.out.vals, ← hvv] at hv3
      have y2 : wr.cell? ⟨g, 4 + n * 29 + 17 + at_ * 3, none⟩ = some (.string path) := by rw [show 4 + n * 29 + 17 + at_ * 3 = 4 + n * 29 + (17 + at_ * 3) by omega, HX.out.ward.th n _ hn (by omega), hv3.1]
      have y3 : wr.cell? ⟨g, 4 + n * 29 + 17 + at_ * 3 + 1, none⟩ = some (.int .u32 ip) := by rw [show 4 + n * 29 + 17 + at_ * 3 + 1 = 4 + n * 29 + (17 + at_ * 3 + 1) by omega, HX.out.ward.th n _ hn (by omega), hv3.2.1]
      have y4 : wr.cell? ⟨g, 4 + n * 29 + 17 + at_ * 3 + 2, none⟩ = some (.int .i64 port) := by rw [show 4 + n * 29 + 17 + at_ * 3 + 2 = 4 + n * 29 + (17 + at_ * 3 + 2) by omega, HX.out.ward.th n _ hn (by omega), hv3.2.2]
      have i1 : (0 : Int) ≤ i := by omega
      have i2 : (i : Int) < L := by omega
      have i3 : (0 : Int) ≤ at_ := by omega
      have i4 : (at_ : Int) < 4 := by omega
      have HKK := hide hk
      rw [← hk, ← hvv] at HVO
      rw [← hk] at hkind
      have HVV := hide hvv
      clear hel hat hmem hdrop hv3 hk hvv
      have HD := hide (HX.out.on HH.out (Below.refl _ wr).drew)
      replace y1 : wr.drew.cell? _ = _ := y1
      replace y2 : wr.drew.cell? _ = _ := y2
      replace y3 : wr.drew.cell? _ = _ := y3
      replace y4 : wr.drew.cell? _ = _ := y4
      have hln := bytesV_len HVO.out
      cases hfq : freeQ s1.mem with
      | none => as_aux_lemma =>
        have HSV := sealValue_full k ⟨path, ip, port⟩ HVO.out hln hfq HD.out.ward
        unfold vlC at HSV
        simp only at HSV
        have HZ := hide (show sealL n pts s = endS n 2 12 zeroVS s1 by
          rw [HE.out, sealL_none n at_ _ s1 hfq])
        clear hfq hln
        go_wp2_with fail
        go_region_held3 (fun w' => w'.cell? ⟨r6, at_, none⟩ = some (.int .i64 (k : Nat)) ∧ w'.cell? ⟨g, 4 + n * 29 + 17 + at_ * 3, none⟩ = some (.string path) ∧ w'.cell? ⟨g, 4 + n * 29 + 17 + at_ * 3 + 1, none⟩ = some (.int .u32 ip) ∧ w'.cell? ⟨g, 4 + n * 29 + 17 + at_ * 3 + 2, none⟩ = some (.int .i64 port))
          (first | (with_reducible exact ⟨y1, y2, y3, y4⟩) | (with_reducible exact ⟨r1, r2, r3, r4⟩) | go_keep)
          ((go_at_call 52; refine HSV.mono ?_; rintro e Y2 ⟨rfl, hw, hf⟩; have HY := hide (HD.out.step HH.out hw hf); have r1 : Y2.cell? ⟨r6, at_, none⟩ = some (.int .i64 (k : Nat)) := (by rw [cell_of_row _ _ _ _ _ _ HY.out.box, HKA.out, HKK.out]; exact kindsA_at _ _ hat4); have hv3 := cellT_val (s1.T n) at_; rw [HM.out.vals, ← HVV.out] at hv3; have r2 : Y2.cell? ⟨g, 4 + n * 29 + 17 + at_ * 3, none⟩ = some (.string path) := (by rw [show 4 + n * 29 + 17 + at_ * 3 = 4 + n * 29 + (17 + at_ * 3) by omega, HY.out.ward.th n _ hn (by omega)]; exact congrArg some hv3.1); have r3 : Y2.cell? ⟨g, 4 + n * 29 + 17 + at_ * 3 + 1, none⟩ = some (.int .u32 ip) := (by rw [show 4 + n * 29 + 17 + at_ * 3 + 1 = 4 + n * 29 + (17 + at_ * 3 + 1) by omega, HY.out.ward.th n _ hn (by omega)]; exact congrArg some hv3.2.1); have r4 : Y2.cell? ⟨g, 4 + n * 29 + 17 + at_ * 3 + 2, none⟩ = some (.int .i64 port) := (by rw [show 4 + n * 29 + 17 + at_ * 3 + 2 = 4 + n * 29 + (17 + at_ * 3 + 2) by omega, HY.out.ward.th n _ hn (by omega)]; exact congrArg some hv3.2.2); clear hw hf hv3))
        have HEF := fail_any n hn 9 HY.out.ward HM.out.log
        clear r1 r2 r3 r4 y0 y1 y2 y3 y4 HSV
        go_wp2_with fail
        refine HEF.mono ?_
        rintro e w' hGo
        obtain ⟨rfl, lv', h1, h2⟩ := hGo
        go_wp2
        go_end0
        exact HG.out lv' _ _ rfl (by rw [HZ.out]; exact h1) (HY.out.fr.trans h2)
      | some q => as_aux_lemma =>
        have HSV := sealValue_ok k ⟨path, ip, port⟩ HVO.out hln hfq HD.out.ward
        unfold vlC at HSV
        simp only at HSV
        obtain ⟨z, hz⟩ : ∃ z, z = q * 64 := ⟨_, rfl⟩
        rw [← hz] at HSV
        obtain ⟨sm, hsm⟩ : ∃ x, x = { s1 with mem := sealM s1.mem q (bytesV k ⟨path, ip, port⟩) } := ⟨_, rfl⟩
        rw [← hsm] at HSV
        have HZ := hide (show sealL n pts s = sealL n (pts.drop (i + 1)) (sm.put n { s1.T n with args := updF (s1.T n).args at_ z, sld := updF (s1.T n).sld at_ true }) by
          rw [HE.out, sealL_some n at_ _ s1 hfq, hsm, hz, HM.out.nr, ← HKK.out, show (s1.T n).vals at_ = ⟨path, ip, port⟩ by rw [HM.out.vals, ← HVV.out]]
          rfl)
        have HSM := hide (show sm.T n = s1.T n ∧ SM n nr vals (sm.put n { s1.T n with args := updF (s1.T n).args at_ z, sld := updF (s1.T n).sld at_ true }) by
          rw [hsm]
          exact ⟨rfl, by rw [T_put]; exact HM.out.nr, by rw [T_put]; exact HM.out.vals, HM.out.log⟩)
        clear hfq hln hz hsm
        go_wp2_with fail
        go_region_held3 (fun w' => w'.cell? ⟨r6, at_, none⟩ = some (.int .i64 (k : Nat)) ∧ w'.cell? ⟨g, 4 + n * 29 + 17 + at_ * 3, none⟩ = some (.string path) ∧ w'.cell? ⟨g, 4 + n * 29 + 17 + at_ * 3 + 1, none⟩ = some (.int .u32 ip) ∧ w'.cell? ⟨g, 4 + n * 29 + 17 + at_ * 3 + 2, none⟩ = some (.int .i64 port))
          (first | (with_reducible exact ⟨y1, y2, y3, y4⟩) | (with_reducible exact ⟨r1, r2, r3, r4⟩) | go_keep)
          ((go_at_call 52; refine HSV.mono ?_; rintro e Y2 ⟨rfl, hw, hf⟩; have HY := hide (HD.out.step HH.out hw hf); have r1 : Y2.cell? ⟨r6, at_, none⟩ = some (.int .i64 (k : Nat)) := (by rw [cell_of_row _ _ _ _ _ _ HY.out.box, HKA.out, HKK.out]; exact kindsA_at _ _ hat4); have hv3 := cellT_val (s1.T n) at_; rw [HM.out.vals, ← HVV.out] at hv3; have r2 : Y2.cell? ⟨g, 4 + n * 29 + 17 + at_ * 3, none⟩ = some (.string path) := (by rw [show 4 + n * 29 + 17 + at_ * 3 = 4 + n * 29 + (17 + at_ * 3) by omega, HY.out.ward.th n _ hn (by omega), HSM.out.1]; exact congrArg some hv3.1); have r3 : Y2.cell? ⟨g, 4 + n * 29 + 17 + at_ * 3 + 1, none⟩ = some (.int .u32 ip) := (by rw [show 4 + n * 29 + 17 + at_ * 3 + 1 = 4 + n * 29 + (17 + at_ * 3 + 1) by omega, HY.out.ward.th n _ hn (by omega), HSM.out.1]; exact congrArg some hv3.2.1); have r4 : Y2.cell? ⟨g, 4 + n * 29 + 17 + at_ * 3 + 2, none⟩ = some (.int .i64 port) := (by rw [show 4 + n * 29 + 17 + at_ * 3 + 2 = 4 + n * 29 + (17 + at_ * 3 + 2) by omega, HY.out.ward.th n _ hn (by omega), HSM.out.1]; exact congrArg some hv3.2.2); clear hw hf hv3))
        clear r1 r2 r3 r4 y0 y1 y2 y3 y4 HSV
        have HYD := hide (HY.out.on HH.out (Below.refl _ Y2).drew)
        have a7 : Y2.drew.cell? ⟨g, 4 + n * 29 + 7 + at_, none⟩ = some (.int .u64 ((s1.T n).args at_ : Nat)) := by rw [Nat.add_assoc (4 + n * 29), HYD.out.ward.th n (7 + at_) hn (by omega), cellT_arg _ _ hat4, HSM.out.1]
        have f7 : Y2.drew.frozen? ⟨g, 4 + n * 29 + 7 + at_, none⟩ = false := HYD.out.ward.fro _
        have HA := HYD.out.ward.setT n (7 + at_) hn (by omega) (.int .u64 (z : Nat)) { s1.T n with args := updF (s1.T n).args at_ z } (fun k _ => by rw [cellT_arg' _ _ _ _ hat4, HSM.out.1])
        rw [← Nat.add_assoc (4 + n * 29)] at HA
        replace HA := hide HA
        have a11 : (Y2.drew.setCell ⟨g, 4 + n * 29 + 7 + at_, none⟩ (.int .u64 (z : Nat))).cell? ⟨g, 4 + n * 29 + 11 + at_, none⟩ = some (.bool ((s1.T n).sld at_)) := by
          rw [Nat.add_assoc (4 + n * 29) 11, HA.out.th n (11 + at_) hn (by omega), cellT_sld _ _ hat4, T_put]
        have f11 : (Y2.drew.setCell ⟨g, 4 + n * 29 + 7 + at_, none⟩ (.int .u64 (z : Nat))).frozen? ⟨g, 4 + n * 29 + 11 + at_, none⟩ = false := HA.out.fro _
        have HB := HA.out.setT' (11 + at_) hn (by omega) (.bool true) { s1.T n with args := updF (s1.T n).args at_ z, sld := updF (s1.T n).sld at_ true } (fun k => cellT_sld' { s1.T n with args := updF (s1.T n).args at_ z } at_ k true hat4)
        rw [← Nat.add_assoc (4 + n * 29)] at HB
        replace HB := hide (HYD.out.step HH.out HB ((Fr.set lv _ _ _).trans (Fr.set lv _ _ _)))
        replace a11 : (Y2.setCell ⟨g, 4 + n * 29 + 7 + at_, none⟩ (.int .u64 (z : Nat))).drew.cell? _ = _ := a11
        replace f11 : (Y2.setCell ⟨g, 4 + n * 29 + 7 + at_, none⟩ (.int .u64 (z : Nat))).drew.frozen? _ = _ := f11
        go_wp2_with fail
        refine wp_region_any (by kernel_rfl) ?_
        change wpAny _ _ _ _ _ _ _ (World.drew _)
        refine Gl.wpAny_takeOf 0 (some 50) (Value.pointer (some ⟨g, 4 + n * 29, none⟩)) rfl rfl (by kernel_rfl) (by kernel_rfl) (by kernel_rfl) (fun _ _ _ h => h) (Or.inl ⟨by rfl, ?_⟩) ?_
        · intro wx
          go_simp
        try simp only [Act.put, List.setIfInBounds_toArray, List.set_cons_zero, List.set_cons_succ]
        refine Gl.wpAny_takeOf 1 (some 51) (.int .i64 (at_ : Nat)) rfl rfl (by kernel_rfl) (by kernel_rfl) (by kernel_rfl) (fun _ _ _ h => h) (Or.inl ⟨by rfl, ?_⟩) ?_
        · intro wx
          go_simp
        try simp only [Act.put, List.setIfInBounds_toArray, List.set_cons_zero, List.set_cons_succ]
        refine Gl.wpAny_takeOf 2 (some 52) (Value.pointer (some ⟨g, 4 + n * 29, none⟩)) rfl rfl (by kernel_rfl) (by kernel_rfl) (by kernel_rfl) (fun _ _ _ h => h) (Or.inl ⟨by rfl, ?_⟩) ?_
        · intro wx
          go_simp
        try simp only [Act.put, List.setIfInBounds_toArray, List.set_cons_zero, List.set_cons_succ]
        refine Gl.wpAny_takeOf 3 (some 53) (.int .i64 (at_ : Nat)) rfl rfl (by kernel_rfl) (by kernel_rfl) (by kernel_rfl) (fun _ _ _ h => h) (Or.inl ⟨by rfl, ?_⟩) ?_
        · intro wx
          go_simp
        try simp only [Act.put, List.setIfInBounds_toArray, List.set_cons_zero, List.set_cons_succ]
        refine Gl.wpAny_takeOf 4 (some 54) (.int .u64 (z : Nat)) rfl rfl (by kernel_rfl) (by kernel_rfl) (by kernel_rfl) (fun _ _ _ h => h) (Or.inl ⟨by rfl, ?_⟩) ?_
        · intro wx
          go_simp
        try simp only [Act.put, List.setIfInBounds_toArray, List.set_cons_zero, List.set_cons_succ]
        refine Gl.wpAny_takeOf 5 (some 55) (Value.pointer (some ⟨g, 4 + n * 29, none⟩)) rfl rfl (by kernel_rfl) (by kernel_rfl) (by kernel_rfl) (fun _ _ _ h => h) (Or.inl ⟨by rfl, ?_⟩) ?_
        · intro wx
          go_simp
        try simp only [Act.put, List.setIfInBounds_toArray, List.set_cons_zero, List.set_cons_succ]
        refine Gl.wpAny_takeOf 6 (some 56) (Value.pointer (some ⟨g, 4 + n * 29 + 7, none⟩)) rfl rfl (by kernel_rfl) (by kernel_rfl) (by kernel_rfl) (fun _ _ _ h => h) (Or.inl ⟨by rfl, ?_⟩) ?_
        · intro wx
          go_simp
        try simp only [Act.put, List.setIfInBounds_toArray, List.set_cons_zero, List.set_cons_succ]
        refine Gl.wpAny_takeOf 9 (some 58) (Value.pointer (some ⟨g, 4 + n * 29, none⟩)) rfl rfl (by kernel_rfl) (by kernel_rfl) (by kernel_rfl) (fun _ _ _ h => h) (Or.inl ⟨by rfl, ?_⟩) ?_
        · intro wx
          go_simp
        try simp only [Act.put, List.setIfInBounds_toArray, List.set_cons_zero, List.set_cons_succ]
        refine Gl.wpAny_takeOf 10 (some 59) (Value.pointer (some ⟨g, 4 + n * 29 + 11, none⟩)) rfl rfl (by kernel_rfl) (by kernel_rfl) (by kernel_rfl) (fun _ _ _ h => h) (Or.inl ⟨by rfl, ?_⟩) ?_
        · intro wx
          go_simp
        try simp only [Act.put, List.setIfInBounds_toArray, List.set_cons_zero, List.set_cons_succ]
        refine Gl.wpAny_only (i := 7) (by kernel_rfl) rfl rfl (fun K hK => ?_)
        go_simp
        refine hK _ _ ?_
        clear hK K
        try simp only [Act.put, List.setIfInBounds_toArray, List.set_cons_zero, List.set_cons_succ]
        refine Gl.wpAny_only (i := 8) (by kernel_rfl) rfl rfl (fun K hK => ?_)
        go_simp
        refine hK _ _ ?_
        clear hK K
        try simp only [Act.put, List.setIfInBounds_toArray, List.set_cons_zero, List.set_cons_succ]
        refine Gl.wpAny_only (i := 11) (by kernel_rfl) rfl rfl (fun K hK => ?_)
        go_simp
        refine hK _ _ ?_
        clear hK K
        try simp only [Act.put, List.setIfInBounds_toArray, List.set_cons_zero, List.set_cons_succ]
        refine Gl.wpAny_only (i := 12) (by kernel_rfl) rfl rfl (fun K hK => ?_)
        go_simp
        refine hK _ _ ?_
        clear hK K
        try simp only [Act.put, List.setIfInBounds_toArray, List.set_cons_zero, List.set_cons_succ]
        refine wpAny_done (by kernel_rfl) ?_ _

        go_wp2
        go_round
        case rel => exact ⟨i + 1, _, by omega, by go_num, HB, hide HSM.out.2, HZ⟩
        case measure => simp [intOf]; omega
    · have hnl : ¬ ((i : Int) < (L : Int)) := by omega
      have HZ := hide (show sealL n pts s = s1.put n { s1.T n with phase := 5 } by
        rw [HE.out, List.drop_eq_nil_of_le (by rw [← HL.out]; omega)]
        rfl)
      have HW5 := hide (HX.out.ward.setPhase n 5 hn)
      have HF5 := hide (HX.out.fr.trans (Fr.set lv wr (4 + n * 29) (.int .i64 5)))
      have cp := HX.out.ward.phase n hn
      have fp := HX.out.ward.fro (4 + n * 29)
      clear hlt
      go_wp2
      go_end0
      exact HG.out lv _ _ rfl (by rw [HZ.out]; exact HW5.out) HF5.out
end Go.Proofs.YtlgghomjlhnijaaGreat

/- follow. -/
namespace Go.Proofs.YtlgghomjlhnijaaGreat
open Go.RowKit Mm

/-- What a pointer leads to: the value, and the error's number. -/
def followV (m : MS) (k a : Nat) : VL × Nat :=
  if k = 2 then (⟨⟨(bytesOf (Mm.textP (peek m) a 41 0 []).2).toArray⟩, 0, 0⟩, (Mm.textP (peek m) a 41 0 []).1)
  else match getR m a 16 with
    | none => (zeroVL, 5)
    | some l => valR 3 (bytesOf l)
set_option maxHeartbeats 1000000 in
theorem follow_any {g gm : Nat} {P : PV} {s : WS} {lv : Value} {W : World} (k a : Nat) (hk : k = 2 ∨ k = 3) (ha : a < 18446744073709551616) (hlt : ∀ x, s.mem.byte x < 256) (h : WX g gm P s lv W) :
    Calls Tryz.prog 55 #[.pointer (some ⟨g, 0, none⟩), .int .i64 k, .int .u64 a] W fun e w' => e = .returned (.tuple #[.agg (vlC (followV s.mem k a).1), errV (followV s.mem k a).2]) ∧ Below W.heap.size W w' := by
  obtain ⟨V, hV, hVh, hVb⟩ : ∃ V, V = W.alloc (.cells #[.string ⟨#[]⟩, .int .u32 0, .int .i64 0] 50) ∧ V.heap[W.heap.size]? = some (.cells #[.string ⟨#[]⟩, .int .u32 0, .int .i64 0] 50 (0, 0)) ∧ Below W.heap.size W V := ⟨_, rfl, heap_alloc_new _ _, box_below _ _⟩
  have hVl := (Array.getElem?_eq_some_iff.1 hVh).1
  have hX := h.on hVb
  have cp := hX.ptr
  have HT := Mm.text_any hX.mem a ha hlt
  have HG := get_any hX.mem a 16 ha (by omega) hlt
  unfold followV
  rcases hk with rfl | rfl
  · rw [if_pos rfl]
    obtain ⟨⟨f, l⟩, hr⟩ : ∃ r, r = Mm.textP (peek s.mem) a 41 0 [] := ⟨_, rfl⟩
    rw [← hr] at HT
    rw [← hr]
    unfold Mm.textV at HT
    simp only at HT ⊢
    obtain ⟨q, hq⟩ : ∃ q : ByteArray, q = ⟨(bytesOf l).toArray⟩ := ⟨_, rfl⟩
    rw [← hq] at HT
    rw [← hq]
    obtain ⟨er, her⟩ : ∃ er : Value, er = errV f := ⟨_, rfl⟩
    rw [show (if f = 0 then Value.nilIface else .iface 93 (.int .i64 f)) = er from her.symm] at HT
    rw [← her]
    clear hq hr HG hX h her
    rw [hV] at cp
    go_enter Tryz.func55, Tryz.ntmps55
    go_wp2_with fail
    rw [← hV]
    refine HT.mono ?_
    rintro e X ⟨rfl, hX⟩
    have hXh := (hX.block _ hVl).trans hVh
    have HB := hide (below_next hVb hX)
    clear hV HT hX cp
    go_wp2_with (refine wpList_store_row rfl 50 _ _ rfl W.heap.size (vlC ⟨q, 0, 0⟩) rfl rfl 50 _ hXh size_vl rfl (vlC_one _) ?_)
    exact bodyPost_ret (v := .tuple #[.agg (vlC ⟨q, 0, 0⟩), er]) (results_vl rfl _ _ W.heap.size (vlC ⟨q, 0, 0⟩) _ rfl rfl rfl (setRow_heap _ _ _ _ _ _ hXh)) rfl ⟨rfl, below_setRow HB.out (Nat.le_refl _) _⟩
  · rw [if_neg (by omega)]
    have hln : ∀ l, getR s.mem a 16 = some l → (bytesOf l).length ≤ 9000 := by
      intro l hl
      have := getR_len hl
      unfold bytesOf
      rw [List.length_map]
      omega
    cases hr : getR s.mem a 16 with
    | none =>
      rw [hr] at HG
      unfold getV at HG
      simp only at HG ⊢
      clear hr HT hX h hln
      rw [hV] at cp
      go_enter Tryz.func55, Tryz.ntmps55
      go_wp2_with fail
      rw [← hV]
      refine HG.mono ?_
      rintro e X ⟨rfl, hX⟩
      have hXh := (hX.block _ hVl).trans hVh
      have HB := hide (below_next hVb hX)
      clear hV HG hX cp
      go_wp2_with (refine wpList_store_row rfl 50 _ _ rfl W.heap.size (vlC zeroVL) rfl rfl 50 _ hXh size_vl rfl (vlC_one _) ?_)
      exact bodyPost_ret (v := .tuple #[.agg (vlC zeroVL), .iface 93 (.int .i64 5)]) (results_vl rfl _ _ W.heap.size (vlC zeroVL) _ rfl rfl rfl (setRow_heap _ _ _ _ _ _ hXh)) rfl ⟨rfl, below_setRow HB.out (Nat.le_refl _) _⟩
    | some l =>
      rw [hr] at HG
      unfold getV at HG
      simp only at HG ⊢
      have HW := fun X => valueOf_any 3 (.inr rfl) (bytesOf l) (hln l hr) X
      rw [show (⟨(bytesOf l).toArray⟩ : ByteArray) = bs (bytesOf l) from rfl] at HG
      obtain ⟨q, hq⟩ : ∃ q, q = bs (bytesOf l) := ⟨_, rfl⟩
      obtain ⟨⟨x, f⟩, hx⟩ : ∃ r, r = valR 3 (bytesOf l) := ⟨_, rfl⟩
      rw [← hx] at HW
      rw [← hx]
      simp only [← hq] at HG HW ⊢
      obtain ⟨er, her⟩ : ∃ er : Value, er = errV f := ⟨_, rfl⟩
      simp only [← her] at HW ⊢
      obtain ⟨xc, hxc⟩ : ∃ c, c = vlC x := ⟨_, rfl⟩
      have hx3 : xc.size = 3 := by rw [hxc]; rfl
      have hx1 : xc.all (·.oneCell') = true := by rw [hxc]; exact vlC_one _
      simp only [← hxc] at HW ⊢
      clear hr HT hX h hln hq hx her hxc
      rw [hV] at cp
      go_enter Tryz.func55, Tryz.ntmps55
      go_wp2_with fail
      rw [← hV]
      refine HG.mono ?_
      rintro e X ⟨rfl, hX⟩
      have hXh := (hX.block _ hVl).trans hVh
      have hXl := Nat.lt_of_lt_of_le hVl hX.size
      have HB := hide (below_next hVb hX)
      clear hV HG hX cp
      go_wp2_with fail
      refine (HW X).mono ?_
      rintro e Y ⟨rfl, hY⟩
      have hYh := (hY.block _ hXl).trans hXh
      have HC := hide (below_next HB.out hY)
      clear HW hY
      go_wp2_with (refine wpList_store_row rfl 50 _ _ rfl W.heap.size xc rfl rfl 50 _ hYh (by rw [hx3]; exact size_vl) (by rw [hx3]; rfl) hx1 ?_)
      exact bodyPost_ret (v := .tuple #[.agg xc, er]) (results_vl rfl _ _ W.heap.size xc _ hx3 rfl rfl (setRow_heap _ _ _ _ _ _ hYh)) rfl ⟨rfl, below_setRow HC.out (Nat.le_refl _) _⟩
theorem textP_code (p : Nat → Option Nat) (a : Nat) : ∀ (f i : Nat) (l : List Nat), (Mm.textP p a f i l).1 = 0 ∨ (Mm.textP p a f i l).1 = 5 ∨ (Mm.textP p a f i l).1 = 6
  | 0, _, _ => .inr (.inr rfl)
  | f + 1, i, l => by
    unfold Mm.textP
    cases hp : p (addrI a i) with
    | none => exact .inr (.inl rfl)
    | some x =>
      by_cases hx : x = 0
      · rw [hx]
        exact .inl rfl
      · simp only [if_neg hx]; exact textP_code p a f (i + 1) (l ++ [x])
/-- The two ways to say what a pointer leads to are one. -/
theorem followF_V (m : MS) (k a : Nat) (hk : k = 2 ∨ k = 3) : followF m k a = if (followV m k a).2 = 0 then .inl (followV m k a).1 else .inr (errnoN (followV m k a).2) := by
  unfold followF followV
  rcases hk with rfl | rfl
  · rw [if_pos rfl, if_pos rfl]
    have hc := textP_code (peek m) a 41 0 []
    obtain ⟨⟨f, l⟩, hr⟩ : ∃ r, r = Mm.textP (peek m) a 41 0 [] := ⟨_, rfl⟩
    rw [← hr] at hc ⊢
    simp only at hc ⊢
    rcases hc with rfl | rfl | rfl <;> rfl
  · simp only [if_neg (show ¬ (3 : Nat) = 2 by decide)]
    cases hg : getR m a 16 with
    | none => rfl
    | some l =>
      unfold valR valOf
      simp only [↓reduceIte]
      rw [show (⟨(bytesOf l).toArray⟩ : ByteArray) = bs (bytesOf l) from rfl]
      cases hr : readR (bs (bytesOf l)) with
      | none => rfl
      | some x => rfl
end Go.Proofs.YtlgghomjlhnijaaGreat

/- exec. -/
namespace Go.Proofs.YtlgghomjlhnijaaGreat
open Go.RowKit Mm

/-- Four values' cells. -/
def cellV (v : Nat → VL) (j : Nat) : Value := if j % 3 = 0 then .string (v (j / 3)).path else if j % 3 = 1 then .int .u32 (v (j / 3)).ip else .int .i64 (v (j / 3)).port
theorem cellV_zero : VA 12 (cellV fun _ => zeroVL) = #[.string ⟨#[]⟩, .int .u32 0, .int .i64 0, .string ⟨#[]⟩, .int .u32 0, .int .i64 0, .string ⟨#[]⟩, .int .u32 0, .int .i64 0, .string ⟨#[]⟩, .int .u32 0, .int .i64 0] := by
  rw [VA_eq]
  rfl
theorem ovr_VA (N g : Nat) (ty : TypeId) : ∀ (l : List Value) (o : Nat) (f : Nat → Value) (W : World), W.heap[g]? = some (.cells (VA N f) ty (0, 0)) → W.setCells g o l = W.setRow g (VA N (ovr f o l))
  | [], o, f, W, h => by
    rw [show ovr f o [] = f by funext i; unfold ovr; rw [if_neg (by simp only [List.length_nil]; omega)]]
    exact (setRow_self W g _ _ _ h).symm
  | x :: r, o, f, W, h => by
    rw [World.setCells, setCell_eq_setRow _ _ _ _ _ _ _ h, VA_set, ovr_VA N g ty r (o + 1) (updV f o x) _ (setRow_heap _ _ _ _ _ _ h), setRow_again _ _ _ _ _ _ h]
    congr 2
    funext i
    unfold ovr updV
    by_cases h1 : i = o
    · subst h1
      rw [if_neg (by omega), if_pos rfl, if_pos (by simp), Nat.sub_self]
      rfl
    · by_cases h2 : o + 1 ≤ i ∧ i < o + 1 + r.length
      · rw [if_pos h2, if_pos (by rw [List.length_cons]; omega), show i - o = (i - (o + 1)) + 1 by omega, List.getD_cons_succ]
      · rw [if_neg h2, if_neg h1, if_neg (by rw [List.length_cons]; omega)]
theorem cellV_set (v : Nat → VL) (i : Nat) (_hi : i < 4) (x : VL) : VA 12 (ovr (cellV v) (i * 3) (vlC x).toList) = VA 12 (cellV (updF v i x)) := by
  refine VA_congr _ _ _ fun j hj => ?_
  unfold ovr
  rw [show (vlC x).toList.length = 3 from rfl]
  by_cases hr : i * 3 ≤ j ∧ j < i * 3 + 3
  · rw [if_pos hr]
    unfold cellV
    rcases show j = i * 3 ∨ j = i * 3 + 1 ∨ j = i * 3 + 2 by omega with rfl | rfl | rfl
    · rw [if_pos (by omega), show i * 3 / 3 = i by omega, updF_same, Nat.sub_self]; rfl
    · rw [if_neg (by omega), if_pos (by omega), show (i * 3 + 1) / 3 = i by omega, updF_same, show i * 3 + 1 - i * 3 = 1 by omega]; rfl
    · rw [if_neg (by omega), if_neg (by omega), show (i * 3 + 2) / 3 = i by omega, updF_same, show i * 3 + 2 - i * 3 = 2 by omega]; rfl
  · rw [if_neg hr]
    unfold cellV
    rw [updF_other _ _ (by omega)]
/-- In the midst of exec. -/
structure EXX (g gm : Nat) (P : PV) (s : WS) (lv : Value) (oa : Option Addr) (l : List Nat) (ka : Array Value) (r6 r7 : Nat) (v : Nat → VL) (W X : World) : Prop where
  sx : SX g gm P s lv oa l ka r6 W X
  vals : X.heap[r7]? = some (.cells (VA 12 (cellV v)) 52 (0, 0))
  bd : W.heap.size ≤ r7
  ne : r7 ≠ r6
  nb : 0 < l.length → ∀ b off, oa = some ⟨b, off, none⟩ → r7 ≠ b
theorem EXX.on {g gm : Nat} {P : PV} {s : WS} {lv : Value} {oa : Option Addr} {l : List Nat} {ka : Array Value} {r6 r7 : Nat} {v : Nat → VL} {W X Z : World} (h : EXX g gm P s lv oa l ka r6 r7 v W X) (hb : Below X.heap.size X Z) : EXX g gm P s lv oa l ka r6 r7 v W Z :=
  ⟨h.sx.on hb, (hb.block _ (Array.getElem?_eq_some_iff.1 h.vals).1).trans h.vals, h.bd, h.ne, h.nb⟩
theorem EXX.start {g gm : Nat} {P : PV} {s : WS} {lv : Value} {oa : Option Addr} {l : List Nat} {ka : Array Value} {r6 : Nat} {W X : World} (h : SX g gm P s lv oa l ka r6 W X) (hb : 0 < l.length → ∀ b off, oa = some ⟨b, off, none⟩ → b < X.heap.size) (c : Array Value) (hc : c = VA 12 (cellV fun _ => zeroVL)) : EXX g gm P s lv oa l ka r6 X.heap.size (fun _ => zeroVL) W (X.alloc (.cells c 52)) := by
  subst hc
  exact ⟨h.on (box_below X _), heap_alloc_new X _, h.fr.size, fun e => by have := (Array.getElem?_eq_some_iff.1 h.box).1; omega, fun h0 b off e hb' => by have := hb h0 b off e; omega⟩
theorem EXX.set {g gm : Nat} {P : PV} {s : WS} {lv : Value} {oa : Option Addr} {l : List Nat} {ka : Array Value} {r6 r7 : Nat} {v : Nat → VL} {W X : World} (h : EXX g gm P s lv oa l ka r6 r7 v W X) (h0 : WX g gm P s lv W) (i : Nat) (hi : i < 4) (x : VL) : EXX g gm P s lv oa l ka r6 r7 (updF v i x) W (X.setCells r7 (i * 3) (vlC x).toList) := by
  rw [ovr_VA 12 r7 52 _ _ _ X h.vals, cellV_set v i hi x]
  have hg := h0.glt
  have hm := h0.mlt
  have hb := h.bd
  have hl : lv.ownBlock ≠ some r7 := fun e => by have := (h0.own.lt _ e).2; omega
  have hgr := setRow_grown X r7 (VA 12 (cellV (updF v i x)))
  have ho : ∀ k, k ≠ r7 → (X.setRow r7 (VA 12 (cellV (updF v i x)))).heap[k]? = X.heap[k]? := fun k hk => row_heap X _ k _ hk
  refine ⟨⟨h.sx.ward.other hgr (by omega) (by omega) hl (Nat.le_trans h0.bd hb), ?_, (ho _ (Ne.symm h.ne)).trans h.sx.box, h.sx.bd, below_setRow h.sx.fr hb _⟩, setRow_heap _ _ _ _ _ _ h.vals, hb, h.ne, h.nb⟩
  refine ⟨fun h0 => ?_⟩
  obtain ⟨b, off, h1, h2, h3, h4⟩ := h.sx.ints.lie h0
  exact ⟨b, off, h1, h2, by rw [row_size]; exact h3, fun j y hj => by rw [cell_heap (ho b (Ne.symm (h.nb h0 b off h1)))]; exact h4 j y hj⟩
theorem entA_done (x0 x1 x2 x3 : VL) : entA ((1 : Nat) : Int) 0 zeroKL ⟨x0, x1, x2, x3⟩ 0 = #[.int .i64 1, .int .i64 0, .int .u32 0, .int .u32 0, .int .u64 0, .int .u64 0, .int .u64 0, .int .u64 0, .string x0.path, .int .u32 x0.ip, .int .i64 x0.port, .string x1.path, .int .u32 x1.ip, .int .i64 x1.port, .string x2.path, .int .u32 x2.ip, .int .i64 x2.port, .string x3.path, .int .u32 x3.ip, .int .i64 x3.port, .int .i64 0] := rfl
theorem exec_nocall {g gm : Nat} {P : PV} {s : WS} {lv : Value} {W : World} (n : Nat) (hn : n < 3) (h8 : 8 < (s.T n).call.nr) (h : WX g gm P s lv W) (hlog : s.log.length ≤ 1000000) :
    Calls Tryz.prog 35 #[.pointer (some ⟨g, 0, none⟩), .int .i64 n] W (Goes g gm P (execS n s) lv W) := by
  have j1 : (0 : Int) ≤ n := by omega
  have j2 : (n : Int) < 3 := by omega
  have HI := isCall_any (s.T n).call W
  rw [decide_eq_false (show ¬ (s.T n).call.nr < 9 by omega)] at HI
  unfold klV klC at HI
  have x1 := h.th n 1 hn (by omega)
  have x2 := h.th n 2 hn (by omega)
  have x3 := h.th n 3 hn (by omega)
  have x4 := h.th n 4 hn (by omega)
  have x5 := h.th n 5 hn (by omega)
  have x6 := h.th n 6 hn (by omega)
  rw [(cellT_call _).1] at x1
  rw [(cellT_call _).2.1] at x2
  rw [(cellT_call _).2.2.1] at x3
  rw [(cellT_call _).2.2.2.1] at x4
  rw [(cellT_call _).2.2.2.2.1] at x5
  rw [(cellT_call _).2.2.2.2.2] at x6
  have HH := hide h
  have HZ := hide (show execS n s = endS n 2 38 zeroVS s by unfold execS; rw [if_pos h8])
  clear h h8
  go_enter Tryz.func35, Tryz.ntmps35
  go_wp2_with fail
  refine HI.mono ?_
  rintro e Y ⟨rfl, hY⟩
  have HE := refuse_any n hn 38 (HH.out.on hY) hlog
  clear x1 x2 x3 x4 x5 x6
  go_wp2_with fail
  refine HE.mono ?_
  rintro e w' hG
  obtain ⟨rfl, h1⟩ := hG
  go_wp2
  go_end0
  rw [HZ.out]
  exact Goes.from hY ⟨rfl, h1⟩
set_option maxHeartbeats 4000000 in
set_option maxRecDepth 20000 in
theorem exec_call {g gm : Nat} {P : PV} {s : WS} {lv : Value} {W : World} (n : Nat) (hn : n < 3) (hnr : (s.T n).call.nr ≤ 8) (har : ∀ i, (s.T n).args i < 18446744073709551616) (hbyt : ∀ x, s.mem.byte x < 256) (h : WX g gm P s lv W) (hlog : s.log.length ≤ 1000000) :
    Calls Tryz.prog 35 #[.pointer (some ⟨g, 0, none⟩), .int .i64 n] W (Goes g gm P (execS n s) lv W) := by
  have j1 : (0 : Int) ≤ n := by omega
  have j2 : (n : Int) < 3 := by omega
  have HI := isCall_any (s.T n).call W
  rw [decide_eq_true (show (s.T n).call.nr < 9 by omega)] at HI
  have HP := fun X => pts_some (s.T n).call hnr X
  unfold klV klC at HI HP
  have x1 := h.th n 1 hn (by omega)
  have x2 := h.th n 2 hn (by omega)
  have x3 := h.th n 3 hn (by omega)
  have x4 := h.th n 4 hn (by omega)
  have x5 := h.th n 5 hn (by omega)
  have x6 := h.th n 6 hn (by omega)
  rw [(cellT_call _).1] at x1
  rw [(cellT_call _).2.1] at x2
  rw [(cellT_call _).2.2.1] at x3
  rw [(cellT_call _).2.2.2.1] at x4
  rw [(cellT_call _).2.2.2.2.1] at x5
  rw [(cellT_call _).2.2.2.2.2] at x6
  have HSE := hide (show execS n s = execL n s (ptsOf (s.T n).call.nr) fun _ => zeroVL by unfold execS; rw [if_neg (by omega)])
  obtain ⟨nr, hnr'⟩ : ∃ x, x = (s.T n).call.nr := ⟨_, rfl⟩
  have HNR := hide hnr'
  rw [← hnr'] at HI HP HSE x2
  obtain ⟨ka, hka⟩ : ∃ k, k = kindsA nr := ⟨_, rfl⟩
  have hka4 : ka.size = 4 := by rw [hka]; rfl
  have hka1 : ka.all (·.oneCell') = true := by rw [hka]; exact kindsA_one _
  have HKA := hide hka
  simp only [← hka] at HP
  obtain ⟨pts, hpts⟩ : ∃ l, l = ptsOf nr := ⟨_, rfl⟩
  have HPT := hide hpts
  simp only [← hpts] at HP HSE
  obtain ⟨L, hL⟩ : ∃ m, m = pts.length := ⟨_, rfl⟩
  have HL := hide hL
  have hL2 : L ≤ 2 := by rw [hL, hpts]; exact pts_few _
  simp only [← hL] at HP
  have HH := hide h
  have HAR := hide har
  have HBY := hide hbyt
  obtain ⟨G, hG⟩ : ∃ G, G = Goes g gm P (execS n s) lv W := ⟨_, rfl⟩
  have HG : Hid (∀ lv' e w', e = .returned (.tuple #[]) → WX g gm P (execL n s pts fun _ => zeroVL) lv' w' → Fr g gm lv lv' W w' → G e w') := hide (fun lv' e w' h1 h2 h3 => by rw [hG]; exact ⟨h1, lv', by rw [HSE.out]; exact h2, h3⟩)
  rw [← hG]
  clear h hka hpts hL hnr hnr' hG HSE har hbyt
  go_enter Tryz.func35, Tryz.ntmps35
  go_wp2_with fail
  refine HI.mono ?_
  rintro e Y0 ⟨rfl, hY0⟩
  have HH0 := hide (HH.out.on hY0)
  have HB0 := hide hY0
  replace x1 := keep_cell hY0 x1
  replace x2 := keep_cell hY0 x2
  replace x3 := keep_cell hY0 x3
  replace x4 := keep_cell hY0 x4
  replace x5 := keep_cell hY0 x5
  replace x6 := keep_cell hY0 x6
  clear hY0 HI
  go_wp2_with fail
  refine (HP Y0).mono ?_
  rintro e Y ⟨⟨oa, cap, rfl, hcap, hcap2, hints⟩, hY⟩
  have HS := hide (SX.of ka #[.int .i64 0, .int .i64 0, .int .i64 0, .int .i64 0] HH.out (hints.weak HB0.out.size) (below_next HB0.out hY))
  obtain ⟨X, hX⟩ : ∃ X, X = (Y.alloc (.cells #[.int .i64 0, .int .i64 0, .int .i64 0, .int .i64 0] 106)).setRow Y.heap.size ka := ⟨_, rfl⟩
  rw [← hX] at HS
  have hob : 0 < L → ∀ b off, oa = some ⟨b, off, none⟩ → b < X.heap.size := fun h0 b off e => by
    obtain ⟨b', off', h1, h2, h3, h4⟩ := HS.out.ints.lie (by rw [← HL.out]; exact h0)
    rw [h1] at e
    simp only [Option.some.injEq, Addr.mk.injEq] at e
    omega
  have HOB : Hid (0 < pts.length → ∀ b off, oa = some ⟨b, off, none⟩ → b < X.heap.size) := hide (by rw [← HL.out]; exact hob)
  clear HP x1 x2 x3 x4 x5 x6 hints hob
  go_wp2_with (refine wpList_store_row rfl 106 _ _ rfl Y.heap.size ka rfl rfl 106 _ (heap_alloc_new Y _) (by rw [hka4]; exact size_kinds) (by rw [hka4]; rfl) hka1 ?_; rw [← hX]; clear hX)
  have HE0 := hide (EXX.start HS.out HOB.out _ cellV_zero.symm)
  obtain ⟨r6, hr6⟩ : ∃ r, r = Y.heap.size := ⟨_, rfl⟩
  obtain ⟨r7, hr7⟩ : ∃ r, r = X.heap.size := ⟨_, rfl⟩
  rw [← hr6, ← hr7] at HE0
  rw [← hr6, ← hr7]
  clear hr6 hr7 hY hka4 hka1 HS HOB HB0 HH0
  go_loopw [36] (fun I w' => ∃ (i : Nat) (v : Nat → VL), i ≤ L ∧ I = .int .i64 i ∧ Hid (EXX g gm P s lv oa pts ka r6 r7 v W w') ∧ Hid (execL n s pts (fun _ => zeroVL) = execL n s (pts.drop i) v)) (fun I _ => L - (intOf I).toNat)
  case atStart => exact ⟨0, _, by omega, rfl, HE0, hide (by rw [List.drop_zero])⟩
  case round =>
    obtain ⟨i, v, hi, rfl, HX, HE⟩ := hrel
    clear HE0
    by_cases hlt : i < L
    · obtain ⟨at_, hat⟩ : ∃ a, pts[i]? = some a := ⟨_, List.getElem?_eq_getElem (by rw [← HL.out]; exact hlt)⟩
      have hmem := List.mem_of_getElem? hat
      obtain ⟨_, hat4, hkind⟩ := pts_of (show at_ ∈ ptsOf nr by rw [← HPT.out]; exact hmem)
      have hdrop : pts.drop i = at_ :: pts.drop (i + 1) := by
        rw [List.drop_eq_getElem_cons (by rw [← HL.out]; exact hlt)]
        congr 1
        rw [List.getElem?_eq_getElem (by rw [← HL.out]; exact hlt)] at hat
        exact Option.some.inj hat
      rw [hdrop] at HE
      obtain ⟨b, off, rfl, hbw, hbl, hel⟩ := HX.out.sx.ints.lie (by rw [← HL.out]; omega)
      have y0 := hel i at_ hat
      obtain ⟨k, hk⟩ : ∃ k, k = kindAt nr at_ := ⟨_, rfl⟩
      obtain ⟨ar, har⟩ : ∃ x, x = (s.T n).args at_ := ⟨_, rfl⟩
      have y1 : wr.cell? ⟨r6, at_, none⟩ = some (.int .i64 (k : Nat)) := by rw [cell_of_row _ _ _ _ _ _ HX.out.sx.box, HKA.out, hk]; exact kindsA_at _ _ hat4
      have y2 : wr.cell? ⟨g, 4 + n * 29 + 7 + at_, none⟩ = some (.int .u64 (ar : Nat)) := by rw [Nat.add_assoc (4 + n * 29), HX.out.sx.ward.th n (7 + at_) hn (by omega), cellT_arg _ _ hat4, har]
      have i1 : (0 : Int) ≤ i := by omega
      have i2 : (i : Int) < L := by omega
      have i3 : (0 : Int) ≤ at_ := by omega
      have i4 : (at_ : Int) < 4 := by omega
      rw [← hk] at hkind
      have hal : ar < 18446744073709551616 := by rw [har]; exact HAR.out at_
      have HFV := fun X (hX : WX g gm P s lv X) => follow_any k ar hkind hal HBY.out hX
      have HFF := hide (show execL n s pts (fun _ => zeroVL) = if (followV s.mem k ar).2 = 0 then execL n s (pts.drop (i + 1)) (updF v at_ (followV s.mem k ar).1) else endS n 2 (errnoN (followV s.mem k ar).2 : Nat) zeroVS s by
        rw [HE.out]
        conv => lhs; rw [execL]
        rw [← HNR.out, ← hk, ← har, followF_V _ _ _ hkind]
        by_cases h0 : (followV s.mem k ar).2 = 0
        · rw [if_pos h0, if_pos h0]
        · rw [if_neg h0, if_neg h0])
      obtain ⟨⟨⟨path, ip, port⟩, f⟩, hvr⟩ : ∃ v, v = followV s.mem k ar := ⟨_, rfl⟩
      simp only [← hvr] at HFV HFF
      unfold vlC at HFV
      simp only at HFV
      obtain ⟨er, her⟩ : ∃ e, e = errV f := ⟨_, rfl⟩
      simp only [← her] at HFV
      have HER := hide her
      have HF1 := HFV wr.drew (HX.out.sx.ward.on (Below.refl _ _).drew)
      have HF2 := HFV (wr.alloc (.cells #[.string ⟨#[]⟩, .int .u32 0, .int .i64 0] 50)).drew ((HX.out.sx.ward.on (box_below wr _)).on (Below.refl _ _).drew)
      have hgZ : g ≠ wr.heap.size := Nat.ne_of_lt HX.out.sx.ward.glt
      have hrZ : r6 ≠ wr.heap.size := Nat.ne_of_lt (Array.getElem?_eq_some_iff.1 HX.out.sx.box).1
      have zb : (wr.alloc (.cells #[.string ⟨#[]⟩, .int .u32 0, .int .i64 0] 50)).drew.heap[wr.heap.size]? = some (.cells #[.string ⟨#[]⟩, .int .u32 0, .int .i64 0] 50 (0, 0)) := heap_alloc_new wr _
      have x1 := keep_cell (box_below wr (.cells #[.string ⟨#[]⟩, .int .u32 0, .int .i64 0] 50)) y1
      have x2 := keep_cell (box_below wr (.cells #[.string ⟨#[]⟩, .int .u32 0, .int .i64 0] 50)) y2
      replace y1 : wr.drew.cell? _ = _ := y1
      replace y2 : wr.drew.cell? _ = _ := y2
      replace x1 : (wr.alloc (.cells #[.string ⟨#[]⟩, .int .u32 0, .int .i64 0] 50)).drew.cell? _ = _ := x1
      replace x2 : (wr.alloc (.cells #[.string ⟨#[]⟩, .int .u32 0, .int .i64 0] 50)).drew.cell? _ = _ := x2
      clear hel hat hmem hdrop hk har hvr her HFV hal hkind
      go_wp2_with fail
      go_cut [10, 11] from 37 to 63 (fun S E w2 => E = er ∧ ∃ r10 : Nat, S = .pointer (some ⟨r10, 0, none⟩) ∧ Hid (Below wr.heap.size wr w2) ∧ Hid (w2.heap[r10]? = some (.cells #[.string path, .int .u32 ip, .int .i64 port] 50 (0, 0))))
      case first => as_aux_lemma =>
        go_region_held3 (fun w' => w'.cell? ⟨r6, at_, none⟩ = some (.int .i64 (k : Nat)) ∧ w'.cell? ⟨g, 4 + n * 29 + 7 + at_, none⟩ = some (.int .u64 (ar : Nat)))
          (first | (with_reducible exact ⟨y1, y2⟩) | (with_reducible exact ⟨x1, x2⟩) | (with_reducible exact ⟨r1, r2⟩) | (with_reducible exact ⟨keep_cell (box_below wr.drew _) y1, keep_cell (box_below wr.drew _) y2⟩) | (with_reducible exact ⟨keep_cell (box_below Y2 _) r1, keep_cell (box_below Y2 _) r2⟩) | (with_reducible exact ⟨keepv hrZ r1, keepv hgZ r2⟩) | go_keep)
          ((first
            | (go_at_call 55; with_reducible refine HF1.mono ?_; rintro e Y2 ⟨rfl, hY2⟩; have HB := hide (below_next (Below.refl _ wr).drew hY2); have r1 := keep_cell hY2 y1; have r2 := keep_cell hY2 y2; clear hY2)
            | (go_at_call 55; refine HF2.mono ?_; rintro e Y2 ⟨rfl, hY2⟩; have HB := hide (below_next (box_below wr (.cells #[.string ⟨#[]⟩, .int .u32 0, .int .i64 0] 50)).drew hY2); have r1 := keep_cell hY2 x1; have r2 := keep_cell hY2 x2; have uh := (hY2.block wr.heap.size (by show _ < (wr.alloc _).heap.size; rw [World.size_alloc]; exact Nat.lt_succ_self _)).trans zb; obtain ⟨⟨p0, p1, p2⟩, g0, g1, g2⟩ := lrow_cells uh; clear hY2)))
        all_goals
          go_wp2_with fail
          go_meet
          case rel => first
            | with_reducible exact ⟨rfl, Y2.heap.size, rfl, hide (below_next HB.out (box_below _ _)), hide (heap_alloc_new _ _)⟩
            | exact ⟨rfl, wr.heap.size, rfl, hide (by rw [lset3 uh]; exact below_setRow HB.out (Nat.le_refl _) _), hide (by rw [lset3 uh]; exact setRow_heap _ _ _ _ _ _ uh)⟩
      case rest =>
        obtain ⟨rfl, r10, rfl, HB2, HR2⟩ := hcut
        clear y0 y1 y2 x1 x2 zb HF1 HF2
        have HX2 := hide (HX.out.on HB2.out)
        by_cases hf0 : f = 0
        · rw [if_pos hf0] at HFF
          have hu := HER.out
          rw [hf0, errV_zero] at hu
          subst hu
          have r0 : wc.cell? ⟨r10, 0, none⟩ = some (.string path) := cell_of_row _ _ 0 _ _ _ HR2.out
          have r1 : wc.cell? ⟨r10, 1, none⟩ = some (.int .u32 ip) := cell_of_row _ _ 1 _ _ _ HR2.out
          have r2 : wc.cell? ⟨r10, 2, none⟩ = some (.int .i64 port) := cell_of_row _ _ 2 _ _ _ HR2.out
          have HX3 := hide (HX2.out.set HH.out at_ hat4 ⟨path, ip, port⟩)
          unfold vlC at HX3
          simp only at HX3
          clear hf0
          go_wp2_with (refine wpList_store_mid (P := Tryz.prog) rfl 50 _ _ rfl r7 (at_ * 3) #[.string path, .int .u32 ip, .int .i64 port] (by go_simp) rfl (by intro j hj; exact ⟨by rw [cell_of_row _ _ _ _ _ _ HX2.out.vals, VA_get _ _ _ (by have h3 : j < 3 := hj; omega)]; rfl, frozen_of_row _ _ _ _ _ HX2.out.vals⟩) size_vl (by simp [Value.oneCell']) ?_)
          go_round
          case rel => exact ⟨i + 1, _, by omega, by go_num, HX3, HFF⟩
          case measure => simp [intOf]; omega
        · rw [if_neg hf0] at HFF
          have hu := HER.out
          rw [errV_pos hf0] at hu
          subst hu
          have HEF := fail_any n hn f HX2.out.sx.ward hlog
          clear hf0
          go_wp2_with fail
          refine HEF.mono ?_
          rintro e w' hGo
          obtain ⟨rfl, lv', h1, h2⟩ := hGo
          go_wp2
          go_end0
          exact HG.out lv' _ _ rfl (by rw [HFF.out]; exact h1) ((Fr.of lv HX2.out.sx.fr).trans h2)
    · have hnl : ¬ ((i : Int) < (L : Int)) := by omega
      have HZ := hide (show execL n s pts (fun _ => zeroVL) = endS n 1 0 (vsOf v) s by
        rw [HE.out, List.drop_eq_nil_of_le (by rw [← HL.out]; omega)]
        rfl)
      have HEN := wend_any n hn 1 0 (vsOf v) HX.out.sx.ward hlog
      have hv := fun j (hj : j < 12) => (cell_of_row _ _ j _ _ _ HX.out.vals).trans (VA_get _ _ _ hj)
      have v0 : wr.cell? ⟨r7, 0, none⟩ = some (.string (v 0).path) := hv 0 (by omega)
      have v1 : wr.cell? ⟨r7, 1, none⟩ = some (.int .u32 (v 0).ip) := hv 1 (by omega)
      have v2 : wr.cell? ⟨r7, 2, none⟩ = some (.int .i64 (v 0).port) := hv 2 (by omega)
      have v3 : wr.cell? ⟨r7, 3, none⟩ = some (.string (v 1).path) := hv 3 (by omega)
      have v4 : wr.cell? ⟨r7, 4, none⟩ = some (.int .u32 (v 1).ip) := hv 4 (by omega)
      have v5 : wr.cell? ⟨r7, 5, none⟩ = some (.int .i64 (v 1).port) := hv 5 (by omega)
      have v6 : wr.cell? ⟨r7, 6, none⟩ = some (.string (v 2).path) := hv 6 (by omega)
      have v7 : wr.cell? ⟨r7, 7, none⟩ = some (.int .u32 (v 2).ip) := hv 7 (by omega)
      have v8 : wr.cell? ⟨r7, 8, none⟩ = some (.int .i64 (v 2).port) := hv 8 (by omega)
      have v9 : wr.cell? ⟨r7, 9, none⟩ = some (.string (v 3).path) := hv 9 (by omega)
      have v10 : wr.cell? ⟨r7, 10, none⟩ = some (.int .u32 (v 3).ip) := hv 10 (by omega)
      have v11 : wr.cell? ⟨r7, 11, none⟩ = some (.int .i64 (v 3).port) := hv 11 (by omega)
      unfold vsOf at HEN
      rw [entA_done] at HEN
      clear hlt hv
      go_wp2_with fail
      refine HEN.mono ?_
      rintro e w' ⟨rfl, lv', h1, h2⟩
      go_wp2
      go_end0
      exact HG.out lv' _ _ rfl (by rw [HZ.out]; exact h1) ((Fr.of lv HX.out.sx.fr).trans h2)
theorem exec_any {g gm : Nat} {P : PV} {s : WS} {lv : Value} {W : World} (n : Nat) (hn : n < 3) (hi : Inv P.p s) (_hph : (s.T n).phase = 5) (h : WX g gm P s lv W) (hlog : s.log.length ≤ 1000000) :
    Calls Tryz.prog 35 #[.pointer (some ⟨g, 0, none⟩), .int .i64 n] W (Goes g gm P (execS n s) lv W) := by
  by_cases h8 : 8 < (s.T n).call.nr
  · exact exec_nocall n hn h8 h hlog
  · exact exec_call n hn (by omega) (hi.thr n hn).ar hi.mem.fine.bytes h hlog
end Go.Proofs.YtlgghomjlhnijaaGreat

/- Step of any thread, Enter of any: what they make of a ward. -/
namespace Go.Proofs.YtlgghomjlhnijaaGreat
open Go.RowKit Mm

/-- What a step of a thread does to the world. -/
def GoesS (g gm : Nat) (P : PV) (r : WS × Bool × Nat) (lv : Value) (W : World) (e : Ending) (w' : World) : Prop := e = .returned (.tuple #[.bool r.2.1, errV r.2.2]) ∧ ∃ lv', WX g gm P r.1 lv' w' ∧ Fr g gm lv lv' W w'
theorem wstep_any {g gm : Nat} {P : PV} {s : WS} {lv : Value} {W : World} (n : Int) (hp : polF P.p = 0) (hi : Inv P.p s) (h : WX g gm P s lv W) (hlog : s.log.length ≤ 1000000) :
    Calls Tryz.prog 17 #[.pointer (some ⟨g, 0, none⟩), .int .i64 n] W (GoesS g gm P (stepW P.p n s) lv W) := by
  by_cases hn : 0 ≤ n ∧ n < 3
  · obtain ⟨k, rfl⟩ : ∃ k : Nat, n = k := ⟨n.toNat, by omega⟩
    have hk : k < 3 := by omega
    have ht := hi.thr k hk
    have hs : stepW P.p k s = if (s.T k).phase = 6 then (s, false, 8) else if (s.T k).phase = 0 then (s, false, 0) else (stepS P.p k s, true, 0) := by
      unfold stepW
      rw [if_pos hn, Int.toNat_natCast]
    rw [hs]
    have go : ∀ (ph : Nat), (s.T k).phase = ph → ph ≠ 6 → ph ≠ 0 → (Calls Tryz.prog 17 #[.pointer (some ⟨g, 0, none⟩), .int .i64 k] W fun e w' => e = .returned (.tuple #[.bool true, .nilIface]) ∧ ∃ lv', WX g gm P (stepS P.p k s) lv' w' ∧ Fr g gm lv lv' W w') →
        Calls Tryz.prog 17 #[.pointer (some ⟨g, 0, none⟩), .int .i64 k] W (GoesS g gm P (if (s.T k).phase = 6 then (s, false, 8) else if (s.T k).phase = 0 then (s, false, 0) else (stepS P.p k s, true, 0)) lv W) := by
      intro ph h0 h6 h00 hc
      rw [if_neg (by omega), if_neg (by omega)]
      exact hc
    rcases seven ht.ph with h0 | h0 | h0 | h0 | h0 | h0 | h0
    · rw [if_neg (by omega), if_pos h0]
      exact (step_idle k hk h0 h).mono fun e w' ⟨he, hw⟩ => ⟨he, lv, by rw [hw]; exact h, by rw [hw]; exact Fr.refl _ _ _ _⟩
    · refine go 1 h0 (by omega) (by omega) ?_
      rw [show stepS P.p k s = filterS P.p k s by unfold stepS; simp only [h0]]
      exact step_1 k hk h0 h ((filter_any k hk hp ht.kl h hlog).mono fun e w' hg => hg)
    · refine go 2 h0 (by omega) (by omega) ?_
      rw [show stepS P.p k s = snapS k s by unfold stepS; simp only [h0]]
      exact step_2 k hk h0 h ((snap_any k hk hi h0 h hlog).mono fun e w' hg => hg)
    · refine go 3 h0 (by omega) (by omega) ?_
      rw [show stepS P.p k s = judgeS P.p k s by unfold stepS; simp only [h0]]
      exact step_3 k hk h0 h ((wjudge_any k hk hp ht.kl (ht.vok (by omega) (by omega)).vs h hlog).mono fun e w' hg => hg)
    · refine go 4 h0 (by omega) (by omega) ?_
      rw [show stepS P.p k s = sealS k s by unfold stepS; simp only [h0]]
      exact step_4 k hk h0 h ((seal_any k hk hi h0 h hlog).mono fun e w' hg => hg)
    · refine go 5 h0 (by omega) (by omega) ?_
      rw [show stepS P.p k s = execS k s by unfold stepS; simp only [h0]]
      exact step_5 k hk h0 h ((exec_any k hk hi h0 h hlog).mono fun e w' hg => hg)
    · rw [if_pos h0]
      have hf : aliveF k s = 8 := by unfold aliveF; rw [if_pos hn, Int.toNat_natCast, if_pos h0]
      have hc := step_err (k : Int) (by rw [hf]; omega) h
      rw [hf] at hc
      exact hc.mono fun e w' ⟨he, hw⟩ => ⟨he, lv, by rw [hw]; exact h, by rw [hw]; exact Fr.refl _ _ _ _⟩
  · have hs : stepW P.p n s = (s, false, 1) := by unfold stepW; rw [if_neg hn]
    have hf : aliveF n s = 1 := by unfold aliveF; rw [if_neg hn]
    rw [hs]
    have hc := step_err n (by rw [hf]; omega) h
    rw [hf] at hc
    exact hc.mono fun e w' ⟨he, hw⟩ => ⟨he, lv, by rw [hw]; exact h, by rw [hw]; exact Fr.refl _ _ _ _⟩
theorem wenter_any {g gm : Nat} {P : PV} {s : WS} {lv : Value} {W : World} (n : Int) (c : KL) (h : WX g gm P s lv W) :
    Calls Tryz.prog 19 #[.pointer (some ⟨g, 0, none⟩), .int .i64 n, klV c] W fun e w' => e = .returned (errV (enterW n c s).2) ∧ WX g gm P (enterW n c s).1 lv w' ∧ Fr g gm lv lv W w' := by
  by_cases hn : 0 ≤ n ∧ n < 3
  · obtain ⟨k, rfl⟩ : ∃ k : Nat, n = k := ⟨n.toNat, by omega⟩
    have hk : k < 3 := by omega
    have hs : enterW k c s = if (s.T k).phase = 6 then (s, 8) else if (s.T k).phase = 0 then (s.put k (enterT c), 0) else (s, 7) := by
      unfold enterW
      rw [if_pos hn, Int.toNat_natCast]
    rw [hs]
    by_cases h6 : (s.T k).phase = 6
    · rw [if_pos h6]
      have hf : aliveF k s = 8 := by unfold aliveF; rw [if_pos hn, Int.toNat_natCast, if_pos h6]
      have hc := wenter_err (k : Int) c (by rw [hf]; omega) h
      rw [hf] at hc
      exact hc.mono fun e w' ⟨he, hb⟩ => ⟨he, h.on hb, Fr.of lv hb⟩
    · rw [if_neg h6]
      by_cases h0 : (s.T k).phase = 0
      · rw [if_pos h0]
        exact wenter_ok k hk c h0 h
      · rw [if_neg h0]
        exact (wenter_busy k hk c h0 h6 h).mono fun e w' ⟨he, hb⟩ => ⟨he, h.on hb, Fr.of lv hb⟩
  · have hs : enterW n c s = (s, 1) := by unfold enterW; rw [if_neg hn]
    have hf : aliveF n s = 1 := by unfold aliveF; rw [if_neg hn]
    rw [hs]
    have hc := wenter_err n c (by rw [hf]; omega) h
    rw [hf] at hc
    exact hc.mono fun e w' ⟨he, hb⟩ => ⟨he, h.on hb, Fr.of lv hb⟩
end Go.Proofs.YtlgghomjlhnijaaGreat

/- did: an act on a ward. -/
namespace Go.Proofs.YtlgghomjlhnijaaGreat
open Go.RowKit Mm

/-- An act's cells. -/
def acC (x : AC) : Array Value := #[.string x.kind, .int .i64 x.n, .int .u64 x.a, .string x.s, .bool x.wr, .int .u32 x.c0, .int .u32 x.c1, .int .u64 x.c2, .int .u64 x.c3, .int .u64 x.c4, .int .u64 x.c5]
def acA (x : AC) (k : KL) : Array Value := #[.string x.kind, .int .i64 x.n, .int .u64 x.a, .string x.s, .bool x.wr, .int .u32 k.arch, .int .u32 k.nr, .int .u64 k.a0, .int .u64 k.a1, .int .u64 k.a2, .int .u64 k.a3]
theorem acC_kl {x : AC} (h : x.callOk) : acC x = acA x (kcall x) := by
  obtain ⟨h0, h1, h2, h3, h4, h5⟩ := h
  unfold acC acA kcall
  simp only
  rw [Int.toNat_of_nonneg h0.1, Int.toNat_of_nonneg h1.1, Int.toNat_of_nonneg h2.1, Int.toNat_of_nonneg h3.1, Int.toNat_of_nonneg h4.1, Int.toNat_of_nonneg h5.1]
theorem kcall_ok {x : AC} (h : x.callOk) : KlOk (kcall x) := by
  obtain ⟨h0, h1, h2, h3, h4, h5⟩ := h
  unfold kcall
  exact ⟨by show x.c0.toNat < _; omega, by show x.c1.toNat < _; omega, by show x.c2.toNat < _; omega, by show x.c3.toNat < _; omega, by show x.c4.toNat < _; omega, by show x.c5.toNat < _; omega⟩
/-- The act's own cells stay. -/
theorem Fr.box {g gm : Nat} {P : PV} {s : WS} {lv lv1 : Value} {W V X : World} (h : WX g gm P s lv W) (hs : V.heap.size = W.heap.size + 1) (hf : Fr g gm lv lv1 V X) : X.heap[W.heap.size]? = V.heap[W.heap.size]? :=
  hf.block _ (by omega) (by have := h.glt; omega) (by have := h.mlt; omega) (fun e => by have := (h.own.lt _ e).2; omega)
set_option maxHeartbeats 4000000 in
theorem did_any {g gm : Nat} {P : PV} {s : WS} {lv : Value} {W : World} (x : AC) (hc : x.callOk) (hxa : x.a < 18446744073709551616) (hxs : x.s.size ≤ 200) (hp : polF P.p = 0) (hq : PolOk P.p) (hi : Inv P.p s) (h : WX g gm P s lv W) (hlog : s.log.length ≤ 900000) :
    Calls Tryz.prog 9 #[.pointer (some ⟨g, 0, none⟩), .agg (acC x)] W (Goes g gm P (didS P.p x s) lv W) := by
  rw [acC_kl hc]
  obtain ⟨D, hD⟩ : ∃ D, D = didS P.p x s := ⟨_, rfl⟩
  rw [← hD]
  unfold didS at hD
  obtain ⟨k, hk⟩ : ∃ k, k = kcall x := ⟨_, rfl⟩
  rw [← hk] at hD
  rw [← hk]
  have HD := hide hD
  clear hk hc hD
  obtain ⟨kd, xn, xa, xs, xw, y0, y1, y2, y3, y4, y5⟩ := x
  obtain ⟨k0, k1, k2, k3, k4, k5⟩ := k
  unfold acA
  simp only at HD hxa hxs ⊢
  obtain ⟨V, hV, hVb, hVs, hVc⟩ := one_box W #[.string kd, .int .i64 xn, .int .u64 xa, .string xs, .bool xw, .int .u32 k0, .int .u32 k1, .int .u64 k2, .int .u64 k3, .int .u64 k4, .int .u64 k5] 42
  have c0 := hVc 0
  have c1 := hVc 1
  have c2 := hVc 2
  have c3 := hVc 3
  have c4 := hVc 4
  have c5 := hVc 5
  have c6 := hVc 6
  have c7 := hVc 7
  have c8 := hVc 8
  have c9 := hVc 9
  have c10 := hVc 10
  simp only [List.getElem?_toArray, List.getElem?_cons_zero, List.getElem?_cons_succ] at c0 c1 c2 c3 c4 c5 c6 c7 c8 c9 c10
  have HX := hide (h.on hVb)
  have HF := hide (Fr.of (g := g) (gm := gm) lv hVb)
  have HBX := fun lv1 X (hf : Fr g gm lv lv1 V X) => Fr.box (X := X) h (by rw [hV, World.size_alloc]) hf
  clear h hVc
  cases hk1 : (kd.toList == [109, 97, 112]) with
  | true =>
    rw [hk1, if_pos rfl] at HD
    have HM := wmap_any xn xw HX.out
    go_enter Tryz.func9, Tryz.ntmps9
    go_wp2_with fail
    rw [← hV]
    refine HM.mono ?_
    rintro e w' ⟨rfl, h1, h2⟩
    go_wp2
    go_end0
    rw [HD.out]
    exact ⟨rfl, lv, h1, HF.out.trans h2⟩
  | false =>
    rw [hk1, if_neg Bool.false_ne_true] at HD
    cases hk2 : (kd.toList == [117, 110, 109, 97, 112]) with
    | true =>
      rw [hk2, if_pos rfl] at HD
      have HM := wunmap_any xn HX.out
      go_enter Tryz.func9, Tryz.ntmps9
      go_wp2_with fail
      rw [← hV]
      refine HM.mono ?_
      rintro e w' ⟨rfl, h1, h2⟩
      go_wp2
      go_end0
      rw [HD.out]
      exact ⟨rfl, lv, h1, HF.out.trans h2⟩
    | false =>
      rw [hk2, if_neg Bool.false_ne_true] at HD
      cases hk3 : (kd.toList == [112, 117, 116]) with
      | true =>
        rw [hk3, if_pos rfl] at HD
        have HM := wput_any xa xs hxa (by omega) HX.out
        go_enter Tryz.func9, Tryz.ntmps9
        go_wp2_with fail
        rw [← hV]
        refine HM.mono ?_
        rintro e w' ⟨rfl, h1, h2⟩
        go_wp2
        go_end0
        rw [HD.out]
        exact ⟨rfl, lv, h1, HF.out.trans h2⟩
      | false =>
        rw [hk3, if_neg Bool.false_ne_true] at HD
        cases hk4 : (kd.toList == [101, 110, 116, 101, 114]) with
        | true =>
          rw [hk4, if_pos rfl] at HD
          have HM := wenter_any xn ⟨k0, k1, k2, k3, k4, k5⟩ HX.out
          unfold klV klC at HM
          simp only at HM
          go_enter Tryz.func9, Tryz.ntmps9
          go_wp2_with fail
          rw [← hV]
          refine HM.mono ?_
          rintro e w' ⟨rfl, h1, h2⟩
          go_wp2
          go_end0
          rw [HD.out]
          exact ⟨rfl, lv, h1, HF.out.trans h2⟩
        | false =>
          rw [hk4, if_neg Bool.false_ne_true] at HD
          cases hk5 : (kd.toList == [115, 116, 101, 112, 115]) with
          | true =>
            rw [hk5, if_pos rfl] at HD
            have HROW := hide (show V.heap[W.heap.size]? = some (.cells #[.string kd, .int .i64 xn, .int .u64 xa, .string xs, .bool xw, .int .u32 k0, .int .u32 k1, .int .u64 k2, .int .u64 k3, .int .u64 k4, .int .u64 k5] 42 (0, 0)) by rw [hV]; exact heap_alloc_new W _)
            have HIN := hide (fun j => stepN_inv hp hq hi xn j)
            have HLN := hide (fun j (hj : j ≤ 90) => show (stepN P.p xn j s).log.length ≤ 1000000 by have := stepN_log hp hq hi xn j; omega)
            have HBX' := hide HBX
            obtain ⟨m, hm⟩ : ∃ m, m = min xa 90 := ⟨_, rfl⟩
            rw [← hm] at HD
            have hm90 : m ≤ 90 := by omega
            have HM := hide hm
            clear hm HBX hi hlog
            go_enter Tryz.func9, Tryz.ntmps9
            go_wp2
            rw [← hV]
            clear hV c0 c1 c2 c3 c4 c5 c6 c7 c8 c9 c10 hVb
            go_loopw [4] (fun I w' => ∃ (i : Nat) (lv1 : Value), i ≤ m ∧ I = .int .u64 i ∧ Hid (WX g gm P (stepN P.p xn i s) lv1 w') ∧ Hid (Fr g gm lv lv1 V w')) (fun I _ => m - (intOf I).toNat)
            case atStart => exact ⟨0, lv, by omega, rfl, HX, hide (Fr.refl _ _ _ _)⟩
            case round =>
              obtain ⟨i, lv1, him, rfl, HY, HFY⟩ := hrel
              have hrow := (HBX'.out lv1 wr HFY.out).trans HROW.out
              have d1 : wr.cell? ⟨W.heap.size, 1, none⟩ = some (.int .i64 xn) := cell_of_row _ _ 1 _ _ _ hrow
              have d2 : wr.cell? ⟨W.heap.size, 2, none⟩ = some (.int .u64 (xa : Nat)) := cell_of_row _ _ 2 _ _ _ hrow
              clear hrow
              by_cases hlt : i < m
              · have HS := wstep_any xn hp (HIN.out i) HY.out (HLN.out i (by omega))
                unfold GoesS at HS
                have HSN := hide (show (stepW P.p xn (stepN P.p xn i s)).1 = stepN P.p xn (i + 1) s from rfl)
                obtain ⟨r, hr⟩ : ∃ r, r = stepW P.p xn (stepN P.p xn i s) := ⟨_, rfl⟩
                rw [← hr] at HS HSN
                obtain ⟨s', b, f⟩ := r
                simp only at HS HSN
                obtain ⟨er, her⟩ : ∃ er, er = errV f := ⟨_, rfl⟩
                rw [← her] at HS
                clear her hr
                have hi90 : (i : Int) < 90 := by omega
                have hixa : (i : Int) < xa := by have := HM.out; omega
                go_wp2_with fail
                refine HS.mono ?_
                rintro e w' ⟨rfl, lv', h1, h2⟩
                rw [HSN.out] at h1
                go_wp2
                go_round
                case rel => exact ⟨i + 1, lv', by omega, by go_num, hide h1, hide (HFY.out.trans h2)⟩
                case measure => simp [intOf]; omega
              · obtain rfl : i = m := by omega
                rcases show (i = 90 ∧ 90 ≤ xa) ∨ (i = xa ∧ xa < 90) by have := HM.out; omega with ⟨h90, hxa90⟩ | ⟨h90, hxa90⟩
                · have g1 : ¬ ((i : Int) < 90) := by omega
                  have g2 : (90 : Int) ≤ (xa : Int) := by omega
                  clear h90 hlt
                  go_wp2_with fail
                  go_end0
                  rw [HD.out]
                  exact ⟨rfl, lv1, HY.out, HF.out.trans HFY.out⟩
                · have g1 : ¬ ((i : Int) < (xa : Int)) := by omega
                  have g2 : (xa : Int) < 90 := by omega
                  clear h90 hlt
                  go_wp2_with fail
                  go_end0
                  rw [HD.out]
                  exact ⟨rfl, lv1, HY.out, HF.out.trans HFY.out⟩
          | false =>
            rw [hk5, if_neg Bool.false_ne_true] at HD
            have HM := wstep_any xn hp hi HX.out (by omega)
            unfold GoesS at HM
            obtain ⟨r, hr⟩ : ∃ r, r = stepW P.p xn s := ⟨_, rfl⟩
            rw [← hr] at HM HD
            obtain ⟨s', b, f⟩ := r
            simp only at HM HD
            obtain ⟨er, her⟩ : ∃ er, er = errV f := ⟨_, rfl⟩
            rw [← her] at HM
            clear her hr
            go_enter Tryz.func9, Tryz.ntmps9
            go_wp2_with fail
            rw [← hV]
            refine HM.mono ?_
            rintro e w' ⟨rfl, lv', h1, h2⟩
            go_wp2
            go_end0
            rw [HD.out]
            exact ⟨rfl, lv', h1, HF.out.trans h2⟩
end Go.Proofs.YtlgghomjlhnijaaGreat

/- The builtin copy, of elements of many cells. -/
namespace Go.Proofs.YtlgghomjlhnijaaGreat
open Go.RowKit Mm

theorem run_copy_wide (P : Program) (w : World) (dT sT ty elem : TypeId) (sz g o dLen dCap : Nat) (a : Addr) (sLen sCap : Nat) (cur : Array Value) (t : TypeId) (cs : List Value) (k : Nat)
    (hu : P.underlying dT = some (.slice elem)) (hs : (P.info? elem).map (·.size) = some sz)
    (hg : w.heap[g]? = some (.cells cur t (0, 0))) (hk : k = Nat.min sLen dLen) (hn : cs.length = k * sz)
    (hsrc : ∀ j v, cs[j]? = some v → w.cell? (a.add j) = some v) (hfit : o + cs.length ≤ cur.size) (h1 : ∀ v ∈ cs, v.oneCell' = true) :
    (Builtin.copy_ #[dT, sT] ty #[.slice (some ⟨g, o, none⟩) dLen dCap, .slice (some a) sLen sCap]).run P w =
      .ok (goInt k) (w.setRow g (cur.toList.take o ++ cs ++ cur.toList.drop (o + cs.length)).toArray) := by
  have hl := run_loadCells_list (P := P) w a cs hsrc
  have hst := run_storeCells_at P g o t cs 0 cur w hg (by simpa using hfit) h1
  cases hq : P.info? elem with
  | none => simp [hq] at hs
  | some i =>
    have hi : i.size = sz := by simpa [hq] using hs
    simp [Builtin.copy_, run_underlying hu, Builtin.lenOf, Builtin.firstCells, sizeOf, typeInfo, hq, hi, ← hk, ← hn, hl, hst]
theorem wpList_copy_wide {P : Program} {w : World} {ops : Array Oper} {rest : List Oper} {o : Oper} {a : Act} {Q : Exit → Act → World → Prop} (hgd : o.guard = none) (d s : Operand) (dT sT : TypeId)
    (ho : o.op = .call { callee := .builtin .copy, args := #[d, s], argTypes := #[dT, sT] }) (elem : TypeId) (sz : Nat) (hu : P.underlying dT = some (.slice elem)) (hsz : (P.info? elem).map (·.size) = some sz)
    (g k dCap : Nat) (ad : Addr) (sCap : Nat) (hd : a.eval d = .slice (some ⟨g, 0, none⟩) k dCap) (hs : a.eval s = .slice (some ad) k sCap)
    (cur : Array Value) (t : TypeId) (hg : w.heap[g]? = some (.cells cur t (0, 0))) (cs : List Value) (hn : cs.length = k * sz) (hcur : cur.size = k * sz)
    (hsrc : ∀ j v, cs[j]? = some v → w.cell? (ad.add j) = some v) (h1 : ∀ v ∈ cs, v.oneCell' = true)
    (h : wpList P ops Q rest (a.put o.dst (goInt k)) (w.setRow g cs.toArray)) : wpList P ops Q (o :: rest) a w := by
  refine wpList_plain hgd fun K hK => ?_
  have hrun := run_copy_wide P w dT sT o.type elem sz g 0 k dCap ad k sCap cur t cs k hu hsz hg (Nat.min_self k).symm hn hsrc (by omega) h1
  rw [List.take_zero, List.nil_append, Nat.zero_add, List.drop_eq_nil_of_le (by simp; omega), List.append_nil] at hrun
  unfold Oper.wp
  simp [execOp, ho, resolve, invoke, builtin, hd, hs, hrun, Result.andThen]
  exact hK _ _ h
theorem wpList_copy_none0 {P : Program} {w : World} {ops : Array Oper} {rest : List Oper} {o : Oper} {a : Act} {Q : Exit → Act → World → Prop} (hgd : o.guard = none) (d s : Operand) (dT sT : TypeId)
    (ho : o.op = .call { callee := .builtin .copy, args := #[d, s], argTypes := #[dT, sT] }) (elem : TypeId) (sz : Nat) (hu : P.underlying dT = some (.slice elem)) (hsz : (P.info? elem).map (·.size) = some sz)
    (ad : Addr) (k dCap : Nat) (hd : a.eval d = .slice (some ad) k dCap) (hs : a.eval s = .slice none 0 0)
    (h : wpList P ops Q rest (a.put o.dst (goInt 0)) w) : wpList P ops Q (o :: rest) a w := by
  refine wpList_plain hgd fun K hK => ?_
  have hrun := run_copy_nil P w dT sT o.type elem ad k dCap hu (by rw [hsz]; rfl)
  unfold Oper.wp
  simp [execOp, ho, resolve, invoke, builtin, hd, hs, hrun, Result.andThen]
  exact hK _ _ h
end Go.Proofs.YtlgghomjlhnijaaGreat

/- LightPolicy, LightValues. -/
namespace Go.Proofs.YtlgghomjlhnijaaGreat
open Go.RowKit Go.Sort

def lightC (c : CD) : Bool := decide (c.glob.size ≤ 60)
def lightR (r : RL) : Bool := decide (r.conds.length ≤ 6) && r.conds.all lightC
def lightB (p : POL) : Bool := decide (p.rules.length ≤ 14) && p.rules.all lightR
def lightVL (v : VL) : Bool := decide (v.path.size ≤ 100)
def lightTo (v : VS) : Nat → Bool
  | 0 => true
  | i + 1 => lightTo v i && lightVL (v.at i)
def lightV (v : VS) : Bool := lightTo v 4
theorem lightTo_false {v : VS} {i : Nat} (h : lightTo v i = false) : ∀ k, lightTo v (i + k) = false
  | 0 => h
  | k + 1 => by rw [← Nat.add_assoc, lightTo, lightTo_false h k, Bool.false_and]

set_option maxHeartbeats 4000000 in
theorem lightPol_any (p : POL) (oa : Option Addr) (cap : Nat) (w : World) (h : IsPol oa cap p w) :
    Calls Tryz.prog 6 #[polV p oa cap] w fun e w' => e = .returned (.bool (lightB p)) ∧ Below w.heap.size w w' := by
  obtain ⟨n, hn⟩ : ∃ n, n = p.rules.length := ⟨_, rfl⟩
  have HC := hide (pol_parts h n hn)
  have hmax : n ≤ 9223372036854775807 := by have h1 := h.le; have h2 := h.cap; unfold maxLen at h2; omega
  clear h
  obtain ⟨rs, ⟨ak, ae⟩⟩ := p
  unfold polV
  simp only at HC hn ⊢
  rw [← hn]
  have HZ := hide (show lightB ⟨rs, ⟨ak, ae⟩⟩ = (decide (n ≤ 14) && rs.all lightR) by rw [hn]; rfl)
  obtain ⟨z, hz⟩ : ∃ z, z = lightB ⟨rs, ⟨ak, ae⟩⟩ := ⟨_, rfl⟩
  rw [← hz] at HZ ⊢
  have HN := hide hn
  have HL := hide (show ∀ i, i < n → ∃ c, rs[i]? = some c ∧ rs.take (i + 1) = rs.take i ++ [c] from fun i h => take_next (by omega))
  clear hn hz
  obtain ⟨V, hV, hB, hsz, hx⟩ := one_box w #[.slice oa n cap, .int .i64 ak, .int .i64 ae] 26
  have x0 := hx 0
  simp only [List.getElem?_toArray, List.getElem?_cons_zero] at x0
  clear hx
  by_cases h14 : 14 < n
  · have HF := hide (show z = false by rw [HZ.out, decide_eq_false (by omega), Bool.false_and])
    go_enter Tryz.func6, Tryz.ntmps6
    go_wp2
    go_ret
    exact ⟨ret_bool HF.out.symm, box_below _ _⟩
  have HZ2 := hide (show z = rs.all lightR by rw [HZ.out, decide_eq_true (by omega), Bool.true_and])
  clear HZ
  go_enter Tryz.func6, Tryz.ntmps6
  go_wp2
  rw [← hV]
  clear hV
  go_loopw [3] (fun I w' => ∃ i : Nat, i ≤ n ∧ I = .int .i64 i ∧ Hid ((rs.take i).all lightR = true) ∧ w' = V) (fun I _ => n - (intOf I).toNat)
  case atStart => exact ⟨0, by omega, rfl, hide rfl, rfl⟩
  case round =>
    obtain ⟨i, hi, rfl, HG, hwr⟩ := hrel
    replace hwr := hwr.symm
    subst hwr
    by_cases hlt : i < n
    · obtain ⟨c, hcs, hcat⟩ := HL.out i hlt
      obtain ⟨b, off, rfl, hbw, HA⟩ := HC.out (by omega)
      obtain ⟨ca, cc, hR0⟩ := HA.out i c hcs
      have hR := hR0.on hbw hB
      clear hR0
      have k1 := hR.k1
      have HQ := hide (all_take_snoc (f := lightR) hcat HG.out)
      obtain ⟨m, hm⟩ : ∃ m, m = c.conds.length := ⟨_, rfl⟩
      rw [← hm] at k1
      have HCC := hide (conds_parts hR.conds m hm)
      have hmm : m ≤ 9223372036854775807 := by have h1 := hR.le; have h2 := hR.cap; unfold maxLen at h2; omega
      have HLR := hide (show lightR c = (decide (m ≤ 6) && c.conds.all lightC) by rw [hm]; rfl)
      have HCL := hide (show ∀ j, j < m → ∃ x, c.conds[j]? = some x ∧ c.conds.take (j + 1) = c.conds.take j ++ [x] from fun j h => take_next (by omega))
      have HM := hide hm
      clear hm hR hcs hcat
      by_cases h6 : 6 < m
      · have HF := hide (show z = false by
          rw [HZ2.out]
          refine all_take_false (i := i + 1) ?_
          rw [HQ.out, HLR.out, decide_eq_false (by omega), Bool.false_and])
        go_wp2
        go_ret
        exact ⟨ret_bool HF.out.symm, hB⟩
      have HLR2 := hide (show lightR c = c.conds.all lightC by rw [HLR.out, decide_eq_true (by omega), Bool.true_and])
      clear HLR
      go_wp2
      go_loopw [4] (fun J w' => ∃ j : Nat, j ≤ m ∧ J = .int .i64 j ∧ Hid ((c.conds.take j).all lightC = true) ∧ w' = V) (fun J _ => m - (intOf J).toNat)
      case atStart => exact ⟨0, by omega, rfl, hide rfl, rfl⟩
      case round =>
        obtain ⟨j, hj, rfl, HGJ, hwr⟩ := hrel
        replace hwr := hwr.symm
        subst hwr
        by_cases hjl : j < m
        · obtain ⟨x, hxs, hxcat⟩ := HCL.out j hjl
          obtain ⟨b2, off2, rfl, hbw2, HA2⟩ := HCC.out (by omega)
          have k4 := (HA2.out j x hxs).k4
          have HQ2 := hide (all_take_snoc (f := lightC) hxcat HGJ.out)
          have HLC := hide (show lightC x = decide (x.glob.size ≤ 60) from rfl)
          obtain ⟨gl, hgl⟩ : ∃ g, g = x.glob := ⟨_, rfl⟩
          rw [← hgl] at k4 HLC
          clear hgl hxs hxcat
          by_cases h60 : 60 < gl.size
          · have HF := hide (show z = false by
              rw [HZ2.out]
              refine all_take_false (i := i + 1) ?_
              rw [HQ.out, HLR2.out]
              refine all_take_false (i := j + 1) ?_
              rw [HQ2.out, HLC.out, decide_eq_false (by omega)])
            go_wp2
            go_ret
            exact ⟨ret_bool HF.out.symm, hB⟩
          · replace HQ2 := hide (show (c.conds.take (j + 1)).all lightC = true by rw [HQ2.out, HLC.out, decide_eq_true (by omega)])
            go_wp2
            go_round
            case rel => exact ⟨j + 1, by omega, by go_num, HQ2, trivial⟩
            case measure => simp [intOf]; omega
        · obtain rfl : j = m := by omega
          have HQ3 := hide (show (rs.take (i + 1)).all lightR = true by
            rw [HQ.out, HLR2.out]
            have := HGJ.out
            rwa [List.take_of_length_le (by rw [HM.out]; exact Nat.le_refl _)] at this)
          go_wp2
          go_round
          case rel => exact ⟨i + 1, by omega, by go_num, HQ3, trivial⟩
          case measure => simp [intOf]; omega
    · obtain rfl : i = n := by omega
      have HF := hide (show z = true by
        have := HG.out
        rw [List.take_of_length_le (by rw [HN.out]; exact Nat.le_refl _)] at this
        rw [HZ2.out, this])
      go_wp2
      go_ret
      exact ⟨ret_bool HF.out.symm, hB⟩

end Go.Proofs.YtlgghomjlhnijaaGreat

/- SamePolicy, of two that are alike. -/
namespace Go.Proofs.YtlgghomjlhnijaaGreat
open Go.RowKit Go.Sort

end Go.Proofs.YtlgghomjlhnijaaGreat

/- Own: a policy in its own memory, a mark behind each rule's conds. -/
namespace Go.Proofs.YtlgghomjlhnijaaGreat
open Go.RowKit Go.Sort

theorem flatC_one (cs : List CD) : ∀ u ∈ flatC cs, u.oneCell' = true := fun u h => by
  unfold flatC at h
  obtain ⟨c, _, hu⟩ := List.mem_flatMap.1 h
  simp only [condC, List.mem_cons, List.not_mem_nil, or_false] at hu
  rcases hu with rfl | rfl | rfl | rfl | rfl | rfl | rfl | rfl | rfl <;> rfl
theorem add_at (b off j : Nat) : (⟨b, off, none⟩ : Addr).add j = ⟨b, off + j, none⟩ := by unfold Addr.add; split <;> simp_all
theorem flatC_cells {oa : Option Addr} {cs : List CD} {W : World} (h : IsConds oa cs W) {ad : Addr} (ha : oa = some ad) : ∀ j u, (flatC cs)[j]? = some u → W.cell? (ad.add j) = some u := fun j u hu => by
  have hj : j < cs.length * 9 := by rw [← flatC_len cs]; exact (List.getElem?_eq_some_iff.1 hu).1
  obtain ⟨b, off, h1, _, h3⟩ := h.lie (by omega)
  rw [ha] at h1
  obtain rfl := Option.some.inj h1
  obtain ⟨c, hc⟩ : ∃ c, cs[j / 9]? = some c := ⟨_, List.getElem?_eq_getElem (by omega)⟩
  have hI := h3 (j / 9) c hc
  have hg := flatC_get cs (j / 9) c (j % 9) hc (by omega)
  rw [show j / 9 * 9 + j % 9 = j by omega, hu] at hg
  rw [add_at, show off + j = off + j / 9 * 9 + j % 9 by omega, hg]
  have hcc : j % 9 = 0 ∨ j % 9 = 1 ∨ j % 9 = 2 ∨ j % 9 = 3 ∨ j % 9 = 4 ∨ j % 9 = 5 ∨ j % 9 = 6 ∨ j % 9 = 7 ∨ j % 9 = 8 := by omega
  rcases hcc with e | e | e | e | e | e | e | e | e
  · rw [e]; exact hI.k0
  · rw [e]; exact hI.k1
  · rw [e]; exact hI.k2
  · rw [e]; exact hI.k3
  · rw [e]; exact hI.k4
  · rw [e]; exact hI.k5
  · rw [e]; exact hI.k6
  · rw [e]; exact hI.k7
  · rw [e]; exact hI.k8

/-- 'append([]Cond(nil), l...)', as a step of a region that draws. -/
theorem step_append_conds {ops : Array Oper} {o : Oper} {a : Act} {w : World} {K : Act → World → Prop} {Q : Exit → Act → World → Prop} {E : Prop} (hgd : o.guard = none) (s x : Operand)
    (ho : o.op = .call { callee := .builtin .append, args := #[s, x], argTypes := #[65, 65] })
    (base : Nat) (hs : a.eval s = .slice none 0 0) (oa : Option Addr) (n cap : Nat) (cs : List CD) (hx : a.eval x = .slice oa n cap) (hn : n = cs.length) (hP : IsConds oa cs w)
    (hn9 : n ≤ 9) (hbase : base ≤ w.heap.size)
    (h : ∀ v' w', w'.ownsRow base 71 9 v' n (flatC cs) → Below w.heap.size w w' → K (a.put o.dst v') w') :
    if Region.wanted o (yielded ops a.tmps) = true then Oper.wp Tryz.prog o a w K Q else E := by
  have hw : Region.wanted o (yielded ops a.tmps) = true := by simp [Region.wanted, hgd]
  rw [if_pos hw]
  obtain ⟨i, hi, hz, hsz, hby⟩ := info_cond
  have key : ∃ v' w', (Builtin.append_ #[65, 65] o.type #[.slice none 0 0, .slice oa n cap]).run Tryz.prog w = .ok v' w' ∧ w'.ownsRow base 71 9 v' n (flatC cs) ∧ Below w.heap.size w w' := by
    cases oa with
    | none =>
      have h0 : cs.length = 0 := by
        rcases Nat.eq_zero_or_pos cs.length with h | h
        · exact h
        · obtain ⟨_, _, h1, _⟩ := hP.lie h
          cases h1
      obtain rfl := List.length_eq_zero_iff.1 h0
      subst hn
      exact ⟨.slice none 0 0, w, by simp [Builtin.append_, run_underlying Tryz.underlying65, sizeOf, typeInfo, hi, Builtin.lenOf, Builtin.firstCells], World.ownsRow_nil _ _ _ _, Below.refl _ _⟩
    | some ad =>
      obtain ⟨v', w', hr, h2, h3, _, _⟩ := run_append_own_at (P := Tryz.prog) w base 65 o.type 71 i _ 9 80 Tryz.underlying65 hi hz hsz hby rfl (by decide) (.slice none 0 0) 0 [] (World.ownsRow_nil _ _ _ _) ad n cap (flatC cs) (by rw [flatC_len, hn]) (flatC_cells hP rfl) (flatC_one cs) (by simp only [maxLen]; omega) (by omega) hbase
      rw [Nat.zero_add, List.nil_append] at h2
      exact ⟨v', w', hr, h2, (Below.refl _ _).grown h3 (Nat.le_refl _) (fun k hk => by cases hk)⟩
  obtain ⟨v', w', hr, h2, h3⟩ := key
  unfold Oper.wp execOp
  simp only [ho, resolve, invoke, builtin, Sem.run_bind, Sem.run_pure, Result.andThen_ok, List.map_toArray, List.map_cons, List.map_nil, hs, hx, hr]
  exact h v' w' h2 h3

theorem conds_prefix {W : World} {base k cap g : Nat} {cs : List CD} {ys : List Value} (h : W.ownsRow base 71 9 (.slice (some ⟨g, 0, none⟩) k cap) k (flatC cs ++ ys)) (hok : ∀ c ∈ cs, CdOk c) : IsConds (some ⟨g, 0, none⟩) cs W :=
  ⟨fun _ => ⟨g, 0, rfl, (h.lt g rfl).2, fun i c hc => by
    have hi : i < cs.length := (List.getElem?_eq_some_iff.1 hc).1
    have hcell : ∀ j u, j < 9 → (condC c).toList[j]? = some u → W.cell? ⟨g, 0 + i * 9 + j, none⟩ = some u := fun j u hj hu => by
      have h5 := h.cells (g := g) rfl (i * 9 + j) u (by rw [List.getElem?_append_left (by rw [flatC_len]; omega), flatC_get cs i c j hc hj]; exact hu)
      rwa [add_at, ← Nat.add_assoc] at h5
    exact ⟨hcell 0 _ (by omega) rfl, hcell 1 _ (by omega) rfl, hcell 2 _ (by omega) rfl, hcell 3 _ (by omega) rfl, hcell 4 _ (by omega) rfl, hcell 5 _ (by omega) rfl, hcell 6 _ (by omega) rfl, hcell 7 _ (by omega) rfl, hcell 8 _ (by omega) rfl, hok c (List.mem_of_getElem? hc)⟩⟩⟩
theorem owned_cap {W : World} {base n cap g : Nat} {xs : List Value} (h : W.ownsRow base 71 9 (.slice (some ⟨g, 0, none⟩) n cap) n xs) : n ≤ cap ∧ cap ≤ maxLen := by
  rcases h.2 with ⟨h1, _⟩ | ⟨g', cap', cur, h1, _, _, hc, hm, _⟩
  · cases h1
  · cases h1; exact ⟨hc, hm⟩
theorem row_grown {X Y : World} {o : Option Nat} {r : Nat} {x : Obj} (h : X.heap[r]? = some x) (hg : X.grownBy Y o) (hne : ∀ k, o = some k → r + 1 ≤ k) : Y.heap[r]? = some x :=
  (hg.block r (Array.getElem?_eq_some_iff.1 h).1 (fun e => by have := hne r e.symm; omega)).trans h

/-- A rule with conds of its own. -/
structure OZ (wr : World) (r6 : Nat) (nr : Int) (cs : List CD) (a : ACT) (gg cap1 : Nat) (Z : World) : Prop where
  below : Below wr.heap.size wr Z
  row : Z.heap[r6]? = some (.cells (ruleC nr (.slice (some ⟨gg, 0, none⟩) cs.length cap1) a) 67 (0, 0))
  conds : IsConds (some ⟨gg, 0, none⟩) cs Z
  le : cs.length ≤ cap1
  cap : cap1 ≤ maxLen
  lt : r6 < gg ∧ gg < Z.heap.size
theorem oz_of {wr X Y : World} {r6 m gg cap1 : Nat} {nr : Int} {cs : List CD} {a : ACT} {sv v : Value} {ys : List Value} (h0 : Below wr.heap.size wr X) (h6 : wr.heap.size ≤ r6) (hr : X.heap[r6]? = some (.cells (ruleC nr sv a) 67 (0, 0))) (hv : ∀ k, v.ownBlock = some k → r6 + 1 ≤ k)
    (hg : X.grownBy Y v.ownBlock) (ho : Y.ownsRow (r6 + 1) 71 9 (.slice (some ⟨gg, 0, none⟩) (m + 1) cap1) (m + 1) (flatC cs ++ ys)) (hok : ∀ c ∈ cs, CdOk c) (hm : m = cs.length) :
    OZ wr r6 nr cs a gg cap1 (Y.setCell ⟨r6, 1, none⟩ (.slice (some ⟨gg, 0, none⟩) m cap1)) := by
  have hY := row_grown hr hg hv
  have hl := ho.lt gg rfl
  have hc := owned_cap ho
  have hXY : Below wr.heap.size wr Y := h0.trans ⟨hg.os, hg.tape, hg.output, hg.size, fun k hk => hg.block k (Nat.lt_of_lt_of_le hk h0.size) (fun e => by have := hv k e.symm; omega)⟩
  have hB := But.set r6 1 Y (.slice (some ⟨gg, 0, none⟩) m cap1)
  refine ⟨hB.below hXY h6 hXY.size, ?_, ?_, by omega, hc.2, ⟨by omega, Nat.lt_of_lt_of_le hl.2 hB.size⟩⟩
  · rw [setCell_eq_setRow _ _ 1 _ _ _ _ hY, setRow_heap _ _ _ _ _ _ hY, hm]
    rfl
  · exact (conds_prefix ho hok).heap (fun b off e hb => hB.block b hb (by simp only [Option.some.injEq, Addr.mk.injEq] at e; omega)) hB.size

theorem oz_plain {wr W1 w1 w2 : World} {m gg cap1 : Nat} {nr : Int} {cs : List CD} {a : ACT} {sv v : Value} {xs ys : List Value} (h0 : Below wr.heap.size wr W1) (hb : Below W1.heap.size W1 w1) (hr : w1.heap[wr.heap.size]? = some (.cells (ruleC nr sv a) 67 (0, 0))) (hv : w1.ownsRow (wr.heap.size + 1) 71 9 v m xs)
    (hg : w1.grownBy w2 v.ownBlock) (ho : w2.ownsRow (wr.heap.size + 1) 71 9 (.slice (some ⟨gg, 0, none⟩) (m + 1) cap1) (m + 1) (flatC cs ++ ys)) (hok : ∀ c ∈ cs, CdOk c) (hm : m = cs.length) :
    OZ wr wr.heap.size nr cs a gg cap1 (w2.setCell ⟨wr.heap.size, 1, none⟩ (.slice (some ⟨gg, 0, none⟩) m cap1)) ∧ w2.heap[wr.heap.size]? = some (.cells (ruleC nr sv a) 67 (0, 0)) ∧ m ≤ cap1 :=
  ⟨oz_of (below_next h0 hb) (Nat.le_refl _) hr (fun k hk => (hv.lt k hk).1) hg ho hok hm, row_grown hr hg (fun k hk => (hv.lt k hk).1), by have := (owned_cap ho).1; omega⟩
theorem oz_alloc {wr W1 w1 w2 : World} {o : Obj} {m gg cap1 : Nat} {nr : Int} {cs : List CD} {a : ACT} {sv v : Value} {xs ys : List Value} (h0 : Below wr.heap.size wr W1) (hb : Below W1.heap.size W1 w1) (hr : w1.heap[wr.heap.size]? = some (.cells (ruleC nr sv a) 67 (0, 0))) (hv : w1.ownsRow (wr.heap.size + 1) 71 9 v m xs)
    (hg : (w1.alloc o).grownBy w2 v.ownBlock) (ho : w2.ownsRow (wr.heap.size + 1) 71 9 (.slice (some ⟨gg, 0, none⟩) (m + 1) cap1) (m + 1) (flatC cs ++ ys)) (hok : ∀ c ∈ cs, CdOk c) (hm : m = cs.length) :
    OZ wr wr.heap.size nr cs a gg cap1 (w2.setCell ⟨wr.heap.size, 1, none⟩ (.slice (some ⟨gg, 0, none⟩) m cap1)) ∧ w2.heap[wr.heap.size]? = some (.cells (ruleC nr sv a) 67 (0, 0)) ∧ m ≤ cap1 := by
  have hr2 : (w1.alloc o).heap[wr.heap.size]? = some (.cells (ruleC nr sv a) 67 (0, 0)) := ((box_below w1 o).block _ (Array.getElem?_eq_some_iff.1 hr).1).trans hr
  exact ⟨oz_of (below_next (below_next h0 hb) (box_below w1 o)) (Nat.le_refl _) hr2 (fun k hk => (hv.lt k hk).1) hg ho hok hm, row_grown hr2 hg (fun k hk => (hv.lt k hk).1), by have := (owned_cap ho).1; omega⟩

/-- The world in the midst of Own. -/
structure OX (w : World) (oa : Option Addr) (n cap : Nat) (a : ACT) (sv : Value) (X : World) : Prop where
  below : Below w.heap.size w X
  box : X.heap[w.heap.size]? = some (.cells (polC (.slice oa n cap) a) 26 (0, 0))
  res : X.heap[w.heap.size + 1]? = some (.cells (polC (.slice none 0 0) ⟨0, 0⟩) 26 (0, 0))
  row : X.heap[w.heap.size + 2]? = some (.cells (polC sv a) 26 (0, 0))
theorem OX.heap {w : World} {oa : Option Addr} {n cap : Nat} {a : ACT} {sv : Value} {X Y : World} (h : OX w oa n cap a sv X) (ho : Y.os = X.os ∧ Y.tape = X.tape ∧ Y.output = X.output) (hs : X.heap.size ≤ Y.heap.size) (hb : ∀ k, k ≤ w.heap.size + 2 → Y.heap[k]? = X.heap[k]?) : OX w oa n cap a sv Y :=
  ⟨h.below.trans ⟨ho.1, ho.2.1, ho.2.2, hs, fun k hk => hb k (by omega)⟩, (hb _ (by omega)).trans h.box, (hb _ (by omega)).trans h.res, (hb _ (by omega)).trans h.row⟩
theorem OX.lt {w : World} {oa : Option Addr} {n cap : Nat} {a : ACT} {sv : Value} {X : World} (h : OX w oa n cap a sv X) : w.heap.size + 2 < X.heap.size := (Array.getElem?_eq_some_iff.1 h.row).1
theorem OX.on {w : World} {oa : Option Addr} {n cap : Nat} {a : ACT} {sv : Value} {X Y : World} (h : OX w oa n cap a sv X) (hb : Below X.heap.size X Y) : OX w oa n cap a sv Y :=
  h.heap ⟨hb.os, hb.tape, hb.output⟩ hb.size fun k hk => hb.block k (by have := h.lt; omega)
theorem OX.set {w : World} {oa : Option Addr} {n cap : Nat} {a : ACT} {sv : Value} {X : World} (h : OX w oa n cap a sv X) (sv' : Value) : OX w oa n cap a sv' (X.setCell ⟨w.heap.size + 2, 0, none⟩ sv') := by
  rw [setCell_eq_setRow _ _ 0 _ _ _ _ h.row, show (polC sv a).setIfInBounds 0 sv' = polC sv' a from rfl]
  have hb : ∀ k, k ≠ w.heap.size + 2 → (X.setRow (w.heap.size + 2) (polC sv' a)).heap[k]? = X.heap[k]? := fun k hk => row_heap X _ k _ hk
  exact ⟨h.below.trans ⟨rfl, rfl, rfl, by rw [row_size]; exact Nat.le_refl _, fun k hk => hb k (by omega)⟩, (hb _ (by omega)).trans h.box, (hb _ (by omega)).trans h.res, setRow_heap _ _ _ _ _ _ h.row⟩
theorem OX.start (w : World) (oa : Option Addr) (n cap : Nat) (a : ACT) : OX w oa n cap a (.slice none 0 0) (((w.alloc (.cells (polC (.slice oa n cap) a) 26)).alloc (.cells (polC (.slice none 0 0) ⟨0, 0⟩) 26)).alloc (.cells (polC (.slice none 0 0) a) 26)) := by
  obtain ⟨A, hA⟩ : ∃ A, A = w.alloc (.cells (polC (.slice oa n cap) a) 26) := ⟨_, rfl⟩
  have a1 : A.heap[w.heap.size]? = some (.cells (polC (.slice oa n cap) a) 26 (0, 0)) := by rw [hA]; exact heap_alloc_new _ _
  have a2 : Below w.heap.size w A := by rw [hA]; exact box_below _ _
  have a3 : A.heap.size = w.heap.size + 1 := by rw [hA, World.size_alloc]
  rw [← hA]
  obtain ⟨B, hB⟩ : ∃ B, B = A.alloc (.cells (polC (.slice none 0 0) ⟨0, 0⟩) 26) := ⟨_, rfl⟩
  have b1 : B.heap[w.heap.size + 1]? = some (.cells (polC (.slice none 0 0) ⟨0, 0⟩) 26 (0, 0)) := by rw [hB, ← a3]; exact heap_alloc_new _ _
  have b2 : Below A.heap.size A B := by rw [hB]; exact box_below _ _
  have b3 : B.heap.size = w.heap.size + 2 := by rw [hB, World.size_alloc, a3]
  rw [← hB]
  have c2 := box_below B (.cells (polC (.slice none 0 0) a) 26)
  exact ⟨below_next (below_next a2 b2) c2, ((c2.block _ (by omega)).trans (b2.block _ (by omega))).trans a1, (c2.block _ (by omega)).trans b1, by rw [← b3]; exact heap_alloc_new _ _⟩

end Go.Proofs.YtlgghomjlhnijaaGreat
