/- sealValue. -/
import Derived.Test.YtklibmijiecbfaaGreatK16
import Derived.Test.YtklibmijiecbfaaGreatK29
namespace Go.Proofs.YtklibmijiecbfaaGreat
open Go.RowKit Mm

theorem sealValue_ok {g gm : Nat} {P : PV} {s : WS} {lv : Value} {W : World} (k : Nat) (v : VL) (hv : ValOk k v) (hl : (bytesV k v).length ≤ 64) {q : Nat} (hq : freeQ s.mem = some q) (h : WX g gm P s lv W) :
  Calls Tryz.prog 58 #[.pointer (some ⟨g, 0, none⟩), .int .i64 k, .agg (vlC v)] W fun e w' => e = .returned (.tuple #[.int .u64 ((q * 64 : Nat) : Int), .nilIface]) ∧ WX g gm P { s with mem := sealM s.mem q (bytesV k v) } lv w' ∧ Fr g gm lv lv W w' := by
 have HB := bytesOf_any k v hv (W.alloc (.cells (vlC v) 66))
 have HX := hide (h.on (box_below W (.cells (vlC v) 66)))
 have HS := fun X (hX : WX g gm P s lv X) => mseal_ok hX.mem hq (bs (bytesV k v)) (by rw [bs_size]; exact hl)
 rw [show (bs (bytesV k v)).data.toList = bytesV k v from rfl] at HS
 obtain ⟨B, hB⟩ : ∃ B, B = bytesV k v := ⟨_, rfl⟩
 rw [← hB] at HB HS
 rw [← hB]
 obtain ⟨path, ip, port⟩ := v
 unfold vlC at HB HX ⊢
 obtain ⟨V, hV, hVb, hVs, hVc⟩ := one_box W #[.string path, .int .u32 ip, .int .i64 port] 66
 have c0 := hVc 0
 have c1 := hVc 1
 have c2 := hVc 2
 simp only [List.getElem?_toArray, List.getElem?_cons_zero, List.getElem?_cons_succ] at c0 c1 c2
 simp only at hV HB HX ⊢
 obtain ⟨z, hz⟩ : ∃ z : Int, z = ((q * 64 : Nat) : Int) := ⟨_, rfl⟩
 rw [← hz] at HS
 rw [← hz]
 rw [← hV] at HB HX
 clear h hB hv hl hVc hVs hq hz
 go_enter Tryz.func58, Tryz.ntmps58
 go_wp2_with fail
 rw [← hV]
 refine HB.mono ?_
 rintro e w1 ⟨rfl, hb1⟩
 have HX1 := hide (HX.out.on hb1)
 have HF1 := hide ((Fr.of (g := g) (gm := gm) lv hVb).trans (Fr.of lv hb1))
 have cp := HX1.out.ptr
 clear hb1 HX HB c0 c1 c2
 go_wp2_with fail
 refine (HS w1 HX1.out).mono ?_
 rintro e w2 ⟨rfl, hm, hg⟩
 go_wp2
 go_ret2
 exact ⟨rfl, HX1.out.memo hm hg, HF1.out.trans (Fr.grown lv hg (.inr rfl))⟩
theorem sealValue_full {g gm : Nat} {P : PV} {s : WS} {lv : Value} {W : World} (k : Nat) (v : VL) (hv : ValOk k v) (hl : (bytesV k v).length ≤ 64) (hq : freeQ s.mem = none) (h : WX g gm P s lv W) :
  Calls Tryz.prog 58 #[.pointer (some ⟨g, 0, none⟩), .int .i64 k, .agg (vlC v)] W fun e w' => e = .returned (.tuple #[.int .u64 0, .iface 82 (.int .i64 9)]) ∧ WX g gm P s lv w' ∧ Fr g gm lv lv W w' := by
 have HB := bytesOf_any k v hv (W.alloc (.cells (vlC v) 66))
 have HX := hide (h.on (box_below W (.cells (vlC v) 66)))
 have HS := fun X (hX : WX g gm P s lv X) => mseal_full hX.mem hq (bs (bytesV k v)) (by rw [bs_size]; exact hl)
 obtain ⟨B, hB⟩ : ∃ B, B = bytesV k v := ⟨_, rfl⟩
 rw [← hB] at HB HS
 obtain ⟨path, ip, port⟩ := v
 unfold vlC at HB HX ⊢
 obtain ⟨V, hV, hVb, hVs, hVc⟩ := one_box W #[.string path, .int .u32 ip, .int .i64 port] 66
 have c0 := hVc 0
 have c1 := hVc 1
 have c2 := hVc 2
 simp only [List.getElem?_toArray, List.getElem?_cons_zero, List.getElem?_cons_succ] at c0 c1 c2
 simp only at hV HB HX ⊢
 rw [← hV] at HB HX
 clear h hB hv hl hVc hVs hq
 go_enter Tryz.func58, Tryz.ntmps58
 go_wp2_with fail
 rw [← hV]
 refine HB.mono ?_
 rintro e w1 ⟨rfl, hb1⟩
 have HX1 := hide (HX.out.on hb1)
 have HF1 := hide ((Fr.of (g := g) (gm := gm) lv hVb).trans (Fr.of lv hb1))
 have cp := HX1.out.ptr
 clear hb1 HX HB c0 c1 c2
 go_wp2_with fail
 refine (HS w1 HX1.out).mono ?_
 rintro e w2 ⟨rfl, hm, hg⟩
 go_wp2
 go_ret2
 exact ⟨rfl, HX1.out.memo hm hg, HF1.out.trans (Fr.grown lv hg (.inr rfl))⟩
end Go.Proofs.YtklibmijiecbfaaGreat

/- seal. -/
namespace Go.Proofs.YtklibmijiecbfaaGreat
open Go.RowKit Mm

structure SY (g gm : Nat) (P : PV) (s : WS) (lv : Value) (oa : Option Addr) (l : List Nat) (ka : Array Value) (r6 : Nat) (W X : World) : Prop where
 ward : WX g gm P s lv X
 ints : IsInts W.heap.size oa l X
 box : X.heap[r6]? = some (.cells ka 126 (0, 0))
 bd : W.heap.size ≤ r6
 fr : Fr g gm lv lv W X
theorem SX.y {g gm : Nat} {P : PV} {s : WS} {lv : Value} {oa : Option Addr} {l : List Nat} {ka : Array Value} {r6 : Nat} {W X : World} (h : SX g gm P s lv oa l ka r6 W X) : SY g gm P s lv oa l ka r6 W X := ⟨h.ward, h.ints, h.box, h.bd, Fr.of lv h.fr⟩
theorem SY.step {g gm : Nat} {P : PV} {s s' s0 : WS} {lv : Value} {oa : Option Addr} {l : List Nat} {ka : Array Value} {r6 : Nat} {W X Z : World} (h : SY g gm P s lv oa l ka r6 W X) (h0 : WX g gm P s0 lv W) (hw : WX g gm P s' lv Z) (hf : Fr g gm lv lv X Z) : SY g gm P s' lv oa l ka r6 W Z := by
 have hg := h0.glt
 have hm := h0.mlt
 have hl : ∀ k, W.heap.size ≤ k → lv.ownBlock ≠ some k := fun k hk e => by have := (h0.own.lt k e).2; omega
 have hb := h.bd
 exact ⟨hw, h.ints.heap (fun k h1 h2 => hf.block k h2 (by omega) (by omega) (hl k h1)) hf.size, (hf.block r6 (Array.getElem?_eq_some_iff.1 h.box).1 (by omega) (by omega) (hl r6 hb)).trans h.box, hb, h.fr.trans hf⟩
theorem SY.on {g gm : Nat} {P : PV} {s s0 : WS} {lv : Value} {oa : Option Addr} {l : List Nat} {ka : Array Value} {r6 : Nat} {W X Z : World} (h : SY g gm P s lv oa l ka r6 W X) (h0 : WX g gm P s0 lv W) (hb : Below X.heap.size X Z) : SY g gm P s lv oa l ka r6 W Z := h.step h0 (h.ward.on hb) (Fr.of lv hb)
theorem sealL_some (n i : Nat) (r : List Nat) (s : WS) {q : Nat} (h : freeQ s.mem = some q) : sealL n (i :: r) s = sealL n r ⟨updF s.T n { s.T n with args := updF (s.T n).args i (q * 64), sld := updF (s.T n).sld i true }, sealM s.mem q (bytesV (kindAt (s.T n).call.nr i) ((s.T n).vals i)), s.log⟩ := by
 conv => lhs; rw [sealL]
 rw [h]
theorem sealL_none (n i : Nat) (r : List Nat) (s : WS) (h : freeQ s.mem = none) : sealL n (i :: r) s = endS n 2 12 zeroVS s := by
 rw [sealL, h]
structure SM (n : Nat) (nr : Nat) (vals : Nat → VL) (s1 : WS) : Prop where
 nr : (s1.T n).call.nr = nr
 vals : (s1.T n).vals = vals
 log : s1.log.length ≤ 1000000
set_option maxHeartbeats 4000000 in
set_option maxRecDepth 20000 in
theorem seal_any {g gm : Nat} {P : PV} {s : WS} {lv : Value} {W : World} (n : Nat) (hn : n < 3) (hi : Inv P.p s) (hph : (s.T n).phase = 4) (h : WX g gm P s lv W) (hlog : s.log.length ≤ 1000000) :
  Calls Tryz.prog 30 #[.pointer (some ⟨g, 0, none⟩), .int .i64 n] W (Goes g gm P (sealS n s) lv W) := by
 have j1 : (0 : Int) ≤ n := by omega
 have j2 : (n : Int) < 3 := by omega
 have ht := hi.thr n hn
 have hnr := ht.trc (by omega) (by omega)
 have hvok := ht.vok (by omega) (by omega)
 rw [(ht.full (by omega) (by omega)).1, List.take_length] at hvok
 have HP := pts_some (s.T n).call hnr W
 unfold klV klC at HP
 have x1 := h.th n 1 hn (by omega)
 have x2 := h.th n 2 hn (by omega)
 have x3 := h.th n 3 hn (by omega)
 have x4 := h.th n 4 hn (by omega)
 have x5 := h.th n 5 hn (by omega)
 have x6 := h.th n 6 hn (by omega)
 rw [(cellT_call _).1] at x1
 rw [(cellT_call _).2.1] at x2
 rw [(cellT_call _).2.2.1] at x3
 rw [(cellT_call _).2.2.2.1] at x4
 rw [(cellT_call _).2.2.2.2.1] at x5
 rw [(cellT_call _).2.2.2.2.2] at x6
 have HSE := hide (show sealS n s = sealL n (ptsOf (s.T n).call.nr) s from rfl)
 have HVK : Hid (∀ i ∈ ptsOf (s.T n).call.nr, ValOk (kindAt (s.T n).call.nr i) ((s.T n).vals i)) := hide (fun i hi => (hvok i).1 hi)
 obtain ⟨nr, hnr'⟩ : ∃ x, x = (s.T n).call.nr := ⟨_, rfl⟩
 obtain ⟨vals, hvals⟩ : ∃ x, x = (s.T n).vals := ⟨_, rfl⟩
 have HM0 : Hid (SM n nr vals s) := hide ⟨hnr'.symm, hvals.symm, hlog⟩
 rw [← hnr'] at HP HSE HVK x2
 rw [← hvals] at HVK
 obtain ⟨ka, hka⟩ : ∃ k, k = kindsA nr := ⟨_, rfl⟩
 have hka4 : ka.size = 4 := by rw [hka]; rfl
 have hka1 : ka.all (·.oneCell') = true := by rw [hka]; exact kindsA_one _
 have HKA := hide hka
 rw [← hka] at HP
 obtain ⟨pts, hpts⟩ : ∃ l, l = ptsOf nr := ⟨_, rfl⟩
 have HPT := hide hpts
 rw [← hpts] at HP HSE HVK
 obtain ⟨L, hL⟩ : ∃ m, m = pts.length := ⟨_, rfl⟩
 have HL := hide hL
 have hL2 : L ≤ 2 := by rw [hL, hpts]; exact pts_few _
 rw [← hL] at HP
 have HH := hide h
 obtain ⟨G, hG⟩ : ∃ G, G = Goes g gm P (sealS n s) lv W := ⟨_, rfl⟩
 have HG : Hid (∀ lv' e w', e = .returned (.tuple #[]) → WX g gm P (sealL n pts s) lv' w' → Fr g gm lv lv' W w' → G e w') := hide (fun lv' e w' h1 h2 h3 => by rw [hG]; exact ⟨h1, lv', by rw [HSE.out]; exact h2, h3⟩)
 rw [← hG]
 clear h ht hi hka hpts hL hvok hph hlog hnr hnr' hvals hG HSE
 go_enter Tryz.func30, Tryz.ntmps30
 go_wp2_with fail
 refine HP.mono ?_
 rintro e Y ⟨⟨oa, cap, rfl, hcap, hcap2, hints⟩, hY⟩
 have HS := hide (SX.of ka #[.int .i64 0, .int .i64 0, .int .i64 0, .int .i64 0] HH.out hints hY).y
 obtain ⟨X, hX⟩ : ∃ X, X = (Y.alloc (.cells #[.int .i64 0, .int .i64 0, .int .i64 0, .int .i64 0] 126)).setRow Y.heap.size ka := ⟨_, rfl⟩
 rw [← hX] at HS
 clear HP x1 x2 x3 x4 x5 x6 hints
 go_wp2_with (refine wpList_store_row rfl 126 _ _ rfl Y.heap.size ka rfl rfl 126 _ (heap_alloc_new Y _) (by rw [hka4]; exact size_kinds) (by rw [hka4]; rfl) hka1 ?_; rw [← hX]; clear hX)
 obtain ⟨r6, hr6⟩ : ∃ r, r = Y.heap.size := ⟨_, rfl⟩
 rw [← hr6] at HS
 rw [← hr6]
 clear hr6 hY hka4 hka1
 go_loopw [26] (fun I w' => ∃ (i : Nat) (s1 : WS), i ≤ L ∧ I = .int .i64 i ∧ Hid (SY g gm P s1 lv oa pts ka r6 W w') ∧ Hid (SM n nr vals s1) ∧ Hid (sealL n pts s = sealL n (pts.drop i) s1)) (fun I _ => L - (intOf I).toNat)
 case atStart => exact ⟨0, s, by omega, rfl, HS, HM0, hide (by rw [List.drop_zero])⟩
 case round =>
  obtain ⟨i, s1, hi, rfl, HX, HM, HE⟩ := hrel
  clear HS
  by_cases hlt : i < L
  ·
   obtain ⟨at_, hat⟩ : ∃ a, pts[i]? = some a := ⟨_, List.getElem?_eq_getElem (by rw [← HL.out]; exact hlt)⟩
   have hmem := List.mem_of_getElem? hat
   obtain ⟨_, hat4, hkind⟩ := pts_of (show at_ ∈ ptsOf nr by rw [← HPT.out]; exact hmem)
   have HVO := hide (HVK.out at_ hmem)
   have hdrop : pts.drop i = at_ :: pts.drop (i + 1) := by
    rw [List.drop_eq_getElem_cons (by rw [← HL.out]; exact hlt)]
    congr 1
    rw [List.getElem?_eq_getElem (by rw [← HL.out]; exact hlt)] at hat
    exact Option.some.inj hat
   rw [hdrop] at HE
   obtain ⟨b, off, rfl, hbw, hbl, hel⟩ := HX.out.ints.lie (by rw [← HL.out]; omega)
   have y0 := hel i at_ hat
   obtain ⟨k, hk⟩ : ∃ k, k = kindAt nr at_ := ⟨_, rfl⟩
   obtain ⟨⟨path, ip, port⟩, hvv⟩ : ∃ v, v = vals at_ := ⟨_, rfl⟩
   have y1 : wr.cell? ⟨r6, at_, none⟩ = some (.int .i64 (k : Nat)) := by rw [cell_of_row _ _ _ _ _ _ HX.out.box, HKA.out, hk]; exact kindsA_at _ _ hat4
   have hv3 := cellT_val (s1.T n) at_
   rw [HM.out.vals, ← hvv] at hv3
   have y2 : wr.cell? ⟨g, 4 + n * 29 + 17 + at_ * 3, none⟩ = some (.string path) := by rw [show 4 + n * 29 + 17 + at_ * 3 = 4 + n * 29 + (17 + at_ * 3) by omega, HX.out.ward.th n _ hn (by omega), hv3.1]
   have y3 : wr.cell? ⟨g, 4 + n * 29 + 17 + at_ * 3 + 1, none⟩ = some (.int .u32 ip) := by rw [show 4 + n * 29 + 17 + at_ * 3 + 1 = 4 + n * 29 + (17 + at_ * 3 + 1) by omega, HX.out.ward.th n _ hn (by omega), hv3.2.1]
   have y4 : wr.cell? ⟨g, 4 + n * 29 + 17 + at_ * 3 + 2, none⟩ = some (.int .i64 port) := by rw [show 4 + n * 29 + 17 + at_ * 3 + 2 = 4 + n * 29 + (17 + at_ * 3 + 2) by omega, HX.out.ward.th n _ hn (by omega), hv3.2.2]
   have i1 : (0 : Int) ≤ i := by omega
   have i2 : (i : Int) < L := by omega
   have i3 : (0 : Int) ≤ at_ := by omega
   have i4 : (at_ : Int) < 4 := by omega
   have HKK := hide hk
   rw [← hk, ← hvv] at HVO
   rw [← hk] at hkind
   have HVV := hide hvv
   clear hel hat hmem hdrop hv3 hk hvv
   have HD := hide (HX.out.on HH.out (Below.refl _ wr).drew)
   replace y1 : wr.drew.cell? _ = _ := y1
   replace y2 : wr.drew.cell? _ = _ := y2
   replace y3 : wr.drew.cell? _ = _ := y3
   replace y4 : wr.drew.cell? _ = _ := y4
   have hln := bytesV_len HVO.out
   cases hfq : freeQ s1.mem with
   | none => as_aux_lemma =>
    have HSV := sealValue_full k ⟨path, ip, port⟩ HVO.out hln hfq HD.out.ward
    unfold vlC at HSV
    simp only at HSV
    have HZ := hide (show sealL n pts s = endS n 2 12 zeroVS s1 by
     rw [HE.out, sealL_none n at_ _ s1 hfq])
    clear hfq hln
    go_wp2_with fail
    go_region_held3 (fun w' => w'.cell? ⟨r6, at_, none⟩ = some (.int .i64 (k : Nat)) ∧ w'.cell? ⟨g, 4 + n * 29 + 17 + at_ * 3, none⟩ = some (.string path) ∧ w'.cell? ⟨g, 4 + n * 29 + 17 + at_ * 3 + 1, none⟩ = some (.int .u32 ip) ∧ w'.cell? ⟨g, 4 + n * 29 + 17 + at_ * 3 + 2, none⟩ = some (.int .i64 port))
     (first | (with_reducible exact ⟨y1, y2, y3, y4⟩) | (with_reducible exact ⟨r1, r2, r3, r4⟩) | go_keep)
     ((go_at_call 58; refine HSV.mono ?_; rintro e Y2 ⟨rfl, hw, hf⟩; have HY := hide (HD.out.step HH.out hw hf); have r1 : Y2.cell? ⟨r6, at_, none⟩ = some (.int .i64 (k : Nat)) := (by rw [cell_of_row _ _ _ _ _ _ HY.out.box, HKA.out, HKK.out]; exact kindsA_at _ _ hat4); have hv3 := cellT_val (s1.T n) at_; rw [HM.out.vals, ← HVV.out] at hv3; have r2 : Y2.cell? ⟨g, 4 + n * 29 + 17 + at_ * 3, none⟩ = some (.string path) := (by rw [show 4 + n * 29 + 17 + at_ * 3 = 4 + n * 29 + (17 + at_ * 3) by omega, HY.out.ward.th n _ hn (by omega)]; exact congrArg some hv3.1); have r3 : Y2.cell? ⟨g, 4 + n * 29 + 17 + at_ * 3 + 1, none⟩ = some (.int .u32 ip) := (by rw [show 4 + n * 29 + 17 + at_ * 3 + 1 = 4 + n * 29 + (17 + at_ * 3 + 1) by omega, HY.out.ward.th n _ hn (by omega)]; exact congrArg some hv3.2.1); have r4 : Y2.cell? ⟨g, 4 + n * 29 + 17 + at_ * 3 + 2, none⟩ = some (.int .i64 port) := (by rw [show 4 + n * 29 + 17 + at_ * 3 + 2 = 4 + n * 29 + (17 + at_ * 3 + 2) by omega, HY.out.ward.th n _ hn (by omega)]; exact congrArg some hv3.2.2); clear hw hf hv3))
    have HEF := fail_any n hn 9 HY.out.ward HM.out.log
    clear r1 r2 r3 r4 y0 y1 y2 y3 y4 HSV
    go_wp2_with fail
    refine HEF.mono ?_
    rintro e w' hGo
    obtain ⟨rfl, lv', h1, h2⟩ := hGo
    go_wp2
    go_end0
    exact HG.out lv' _ _ rfl (by rw [HZ.out]; exact h1) (HY.out.fr.trans h2)
   | some q => as_aux_lemma =>
    have HSV := sealValue_ok k ⟨path, ip, port⟩ HVO.out hln hfq HD.out.ward
    unfold vlC at HSV
    simp only at HSV
    obtain ⟨z, hz⟩ : ∃ z, z = q * 64 := ⟨_, rfl⟩
    rw [← hz] at HSV
    obtain ⟨sm, hsm⟩ : ∃ x, x = { s1 with mem := sealM s1.mem q (bytesV k ⟨path, ip, port⟩) } := ⟨_, rfl⟩
    rw [← hsm] at HSV
    have HZ := hide (show sealL n pts s = sealL n (pts.drop (i + 1)) (sm.put n { s1.T n with args := updF (s1.T n).args at_ z, sld := updF (s1.T n).sld at_ true }) by
     rw [HE.out, sealL_some n at_ _ s1 hfq, hsm, hz, HM.out.nr, ← HKK.out, show (s1.T n).vals at_ = ⟨path, ip, port⟩ by rw [HM.out.vals, ← HVV.out]]
     rfl)
    have HSM := hide (show sm.T n = s1.T n ∧ SM n nr vals (sm.put n { s1.T n with args := updF (s1.T n).args at_ z, sld := updF (s1.T n).sld at_ true }) by
     rw [hsm]
     exact ⟨rfl, by rw [T_put]; exact HM.out.nr, by rw [T_put]; exact HM.out.vals, HM.out.log⟩)
    clear hfq hln hz hsm
    go_wp2_with fail
    go_region_held3 (fun w' => w'.cell? ⟨r6, at_, none⟩ = some (.int .i64 (k : Nat)) ∧ w'.cell? ⟨g, 4 + n * 29 + 17 + at_ * 3, none⟩ = some (.string path) ∧ w'.cell? ⟨g, 4 + n * 29 + 17 + at_ * 3 + 1, none⟩ = some (.int .u32 ip) ∧ w'.cell? ⟨g, 4 + n * 29 + 17 + at_ * 3 + 2, none⟩ = some (.int .i64 port))
     (first | (with_reducible exact ⟨y1, y2, y3, y4⟩) | (with_reducible exact ⟨r1, r2, r3, r4⟩) | go_keep)
     ((go_at_call 58; refine HSV.mono ?_; rintro e Y2 ⟨rfl, hw, hf⟩; have HY := hide (HD.out.step HH.out hw hf); have r1 : Y2.cell? ⟨r6, at_, none⟩ = some (.int .i64 (k : Nat)) := (by rw [cell_of_row _ _ _ _ _ _ HY.out.box, HKA.out, HKK.out]; exact kindsA_at _ _ hat4); have hv3 := cellT_val (s1.T n) at_; rw [HM.out.vals, ← HVV.out] at hv3; have r2 : Y2.cell? ⟨g, 4 + n * 29 + 17 + at_ * 3, none⟩ = some (.string path) := (by rw [show 4 + n * 29 + 17 + at_ * 3 = 4 + n * 29 + (17 + at_ * 3) by omega, HY.out.ward.th n _ hn (by omega), HSM.out.1]; exact congrArg some hv3.1); have r3 : Y2.cell? ⟨g, 4 + n * 29 + 17 + at_ * 3 + 1, none⟩ = some (.int .u32 ip) := (by rw [show 4 + n * 29 + 17 + at_ * 3 + 1 = 4 + n * 29 + (17 + at_ * 3 + 1) by omega, HY.out.ward.th n _ hn (by omega), HSM.out.1]; exact congrArg some hv3.2.1); have r4 : Y2.cell? ⟨g, 4 + n * 29 + 17 + at_ * 3 + 2, none⟩ = some (.int .i64 port) := (by rw [show 4 + n * 29 + 17 + at_ * 3 + 2 = 4 + n * 29 + (17 + at_ * 3 + 2) by omega, HY.out.ward.th n _ hn (by omega), HSM.out.1]; exact congrArg some hv3.2.2); clear hw hf hv3))
    clear r1 r2 r3 r4 y0 y1 y2 y3 y4 HSV
    have HYD := hide (HY.out.on HH.out (Below.refl _ Y2).drew)
    have a7 : Y2.drew.cell? ⟨g, 4 + n * 29 + 7 + at_, none⟩ = some (.int .u64 ((s1.T n).args at_ : Nat)) := by rw [Nat.add_assoc (4 + n * 29), HYD.out.ward.th n (7 + at_) hn (by omega), cellT_arg _ _ hat4, HSM.out.1]
    have f7 : Y2.drew.frozen? ⟨g, 4 + n * 29 + 7 + at_, none⟩ = false := HYD.out.ward.fro _
    have HA := HYD.out.ward.setT n (7 + at_) hn (by omega) (.int .u64 (z : Nat)) { s1.T n with args := updF (s1.T n).args at_ z } (fun k _ => by rw [cellT_arg' _ _ _ _ hat4, HSM.out.1])
    rw [← Nat.add_assoc (4 + n * 29)] at HA
    replace HA := hide HA
    have a11 : (Y2.drew.setCell ⟨g, 4 + n * 29 + 7 + at_, none⟩ (.int .u64 (z : Nat))).cell? ⟨g, 4 + n * 29 + 11 + at_, none⟩ = some (.bool ((s1.T n).sld at_)) := by
     rw [Nat.add_assoc (4 + n * 29) 11, HA.out.th n (11 + at_) hn (by omega), cellT_sld _ _ hat4, T_put]
    have f11 : (Y2.drew.setCell ⟨g, 4 + n * 29 + 7 + at_, none⟩ (.int .u64 (z : Nat))).frozen? ⟨g, 4 + n * 29 + 11 + at_, none⟩ = false := HA.out.fro _
    have HB := HA.out.setT' (11 + at_) hn (by omega) (.bool true) { s1.T n with args := updF (s1.T n).args at_ z, sld := updF (s1.T n).sld at_ true } (fun k => cellT_sld' { s1.T n with args := updF (s1.T n).args at_ z } at_ k true hat4)
    rw [← Nat.add_assoc (4 + n * 29)] at HB
    replace HB := hide (HYD.out.step HH.out HB ((Fr.set lv _ _ _).trans (Fr.set lv _ _ _)))
    replace a11 : (Y2.setCell ⟨g, 4 + n * 29 + 7 + at_, none⟩ (.int .u64 (z : Nat))).drew.cell? _ = _ := a11
    replace f11 : (Y2.setCell ⟨g, 4 + n * 29 + 7 + at_, none⟩ (.int .u64 (z : Nat))).drew.frozen? _ = _ := f11
    go_wp2_with fail
    refine wp_region_any (by kernel_rfl) ?_
    change wpAny _ _ _ _ _ _ _ (World.drew _)
    refine Gl.wpAny_takeOf 0 (some 50) (Value.pointer (some ⟨g, 4 + n * 29, none⟩)) rfl rfl (by kernel_rfl) (by kernel_rfl) (by kernel_rfl) (fun _ _ _ h => h) (Or.inl ⟨by rfl, ?_⟩) ?_
    ·
     intro wx
     go_simp
    try simp only [Act.put, LT1, LT2, LT3]
    refine Gl.wpAny_takeOf 1 (some 51) (.int .i64 (at_ : Nat)) rfl rfl (by kernel_rfl) (by kernel_rfl) (by kernel_rfl) (fun _ _ _ h => h) (Or.inl ⟨by rfl, ?_⟩) ?_
    ·
     intro wx
     go_simp
    try simp only [Act.put, LT1, LT2, LT3]
    refine Gl.wpAny_takeOf 2 (some 52) (Value.pointer (some ⟨g, 4 + n * 29, none⟩)) rfl rfl (by kernel_rfl) (by kernel_rfl) (by kernel_rfl) (fun _ _ _ h => h) (Or.inl ⟨by rfl, ?_⟩) ?_
    ·
     intro wx
     go_simp
    try simp only [Act.put, LT1, LT2, LT3]
    refine Gl.wpAny_takeOf 3 (some 53) (.int .i64 (at_ : Nat)) rfl rfl (by kernel_rfl) (by kernel_rfl) (by kernel_rfl) (fun _ _ _ h => h) (Or.inl ⟨by rfl, ?_⟩) ?_
    ·
     intro wx
     go_simp
    try simp only [Act.put, LT1, LT2, LT3]
    refine Gl.wpAny_takeOf 4 (some 54) (.int .u64 (z : Nat)) rfl rfl (by kernel_rfl) (by kernel_rfl) (by kernel_rfl) (fun _ _ _ h => h) (Or.inl ⟨by rfl, ?_⟩) ?_
    ·
     intro wx
     go_simp
    try simp only [Act.put, LT1, LT2, LT3]
    refine Gl.wpAny_takeOf 5 (some 55) (Value.pointer (some ⟨g, 4 + n * 29, none⟩)) rfl rfl (by kernel_rfl) (by kernel_rfl) (by kernel_rfl) (fun _ _ _ h => h) (Or.inl ⟨by rfl, ?_⟩) ?_
    ·
     intro wx
     go_simp
    try simp only [Act.put, LT1, LT2, LT3]
    refine Gl.wpAny_takeOf 6 (some 56) (Value.pointer (some ⟨g, 4 + n * 29 + 7, none⟩)) rfl rfl (by kernel_rfl) (by kernel_rfl) (by kernel_rfl) (fun _ _ _ h => h) (Or.inl ⟨by rfl, ?_⟩) ?_
    ·
     intro wx
     go_simp
    try simp only [Act.put, LT1, LT2, LT3]
    refine Gl.wpAny_takeOf 9 (some 58) (Value.pointer (some ⟨g, 4 + n * 29, none⟩)) rfl rfl (by kernel_rfl) (by kernel_rfl) (by kernel_rfl) (fun _ _ _ h => h) (Or.inl ⟨by rfl, ?_⟩) ?_
    ·
     intro wx
     go_simp
    try simp only [Act.put, LT1, LT2, LT3]
    refine Gl.wpAny_takeOf 10 (some 59) (Value.pointer (some ⟨g, 4 + n * 29 + 11, none⟩)) rfl rfl (by kernel_rfl) (by kernel_rfl) (by kernel_rfl) (fun _ _ _ h => h) (Or.inl ⟨by rfl, ?_⟩) ?_
    ·
     intro wx
     go_simp
    try simp only [Act.put, LT1, LT2, LT3]
    refine Gl.wpAny_only (i := 7) (by kernel_rfl) rfl rfl (fun K hK => ?_)
    go_simp
    refine hK _ _ ?_
    clear hK K
    try simp only [Act.put, LT1, LT2, LT3]
    refine Gl.wpAny_only (i := 8) (by kernel_rfl) rfl rfl (fun K hK => ?_)
    go_simp
    refine hK _ _ ?_
    clear hK K
    try simp only [Act.put, LT1, LT2, LT3]
    refine Gl.wpAny_only (i := 11) (by kernel_rfl) rfl rfl (fun K hK => ?_)
    go_simp
    refine hK _ _ ?_
    clear hK K
    try simp only [Act.put, LT1, LT2, LT3]
    refine Gl.wpAny_only (i := 12) (by kernel_rfl) rfl rfl (fun K hK => ?_)
    go_simp
    refine hK _ _ ?_
    clear hK K
    try simp only [Act.put, LT1, LT2, LT3]
    refine wpAny_done (by kernel_rfl) ?_ _

    go_wp2
    go_round
    case rel => exact ⟨i + 1, _, by omega, by go_num, HB, hide HSM.out.2, HZ⟩
    case measure => simp [intOf]; omega
  ·
   have hnl : ¬ ((i : Int) < (L : Int)) := by omega
   have HZ := hide (show sealL n pts s = s1.put n { s1.T n with phase := 5 } by
    rw [HE.out, List.drop_eq_nil_of_le (by rw [← HL.out]; omega)]
    rfl)
   have HW5 := hide (HX.out.ward.setPhase n 5 hn)
   have HF5 := hide (HX.out.fr.trans (Fr.set lv wr (4 + n * 29) (.int .i64 5)))
   have cp := HX.out.ward.phase n hn
   have fp := HX.out.ward.fro (4 + n * 29)
   clear hlt
   go_wp2
   go_end0
   exact HG.out lv _ _ rfl (by rw [HZ.out]; exact HW5.out) HF5.out
end Go.Proofs.YtklibmijiecbfaaGreat
