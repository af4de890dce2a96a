/- PolicySays returns true, for all policies, calls and values, and leaves them as they were, over the tables that the program's text lays: the row, and its card. -/
import Derived.Test.YtkogafponpjdnaaGreatDoorK8
import Derived.Test.YtkogafponpjdnaaGreatDoorK10
import Derived.Test.YtkogafponpjdnaaGreatDoorK12
import Derived.Lay
/- The walk of PolicySays. -/
namespace Go.Proofs.YtkogafponpjdnaaGreatDoor
open Go.RowKit Go.Sort

theorem same_errV (f : Nat) (w : World) : Calls Tryz.prog 13 #[errV f, .int .i64 f] w fun e w' => e = .returned (.bool true) ∧ w' = w := by
  by_cases h : f = 0
  · subst h
    exact (same_nil 0 w).mono fun e w' ⟨he, hw⟩ => ⟨he, hw⟩
  · rw [errV_pos h]
    refine (same_errno f f w).mono fun e w' ⟨he, hw⟩ => ⟨?_, hw⟩
    rw [he]
    congr 2
    simp
    omega
theorem light_few {p : POL} (h : lightB p = true) : p.rules.length ≤ 14 ∧ ∀ r ∈ p.rules, r.conds.length ≤ 6 := by
  unfold lightB at h
  rw [Bool.and_eq_true, decide_eq_true_eq, List.all_eq_true] at h
  refine ⟨h.1, fun r hr => ?_⟩
  have := h.2 r hr
  unfold lightR at this
  rw [Bool.and_eq_true, decide_eq_true_eq] at this
  exact this.1

set_option maxHeartbeats 4000000 in
set_option maxRecDepth 100000 in
theorem policySays_any (p : POL) (oa : Option Addr) (cap : Nat) (k : KL) (hk : KlOk k) (v : VS) (hvi : VsIn v) (w : World) (hp : IsPol oa cap p w) (hE : EV w) :
    Calls Tryz.prog 3 #[polV p oa cap, klV k, vsV v] w fun e w' => e = .returned (.bool true) ∧ Below w.heap.size w w' := by
  obtain ⟨V, hV, hB, hVs, hx, hy, hz⟩ := three_box w #[.slice oa p.rules.length cap, .int .i64 p.els.kind, .int .i64 p.els.errno] (klC k) (vsC v) 26 31 35
  have HT : Hid (TB w p.rules.length oa cap p.els k v V) := hide ⟨hx, hy, fun j => cell_of_row _ _ j _ _ _ hz, by omega⟩
  clear hx hy hz
  have HP := hide (hp.on hB)
  have HE := hide (hE.on hB)
  have HBW := hide hB
  have HPK := hide hp.ok
  have HVI := hide hvi
  have HLE := lets_any V HE.out
  have HLP := fun X (h : Below V.heap.size V X) => lightPol_any p oa cap X (HP.out.on h)
  have HLV := fun X => lightVals_any v X
  have HPF := fun X (h : Below V.heap.size V X) => dpolF_any p oa cap X (HP.out.on h)
  have HOW := fun (hl : lightB p = true) X (h : Below V.heap.size V X) => own_any p (light_few hl).1 (light_few hl).2 oa cap X (HP.out.on h)
  have HTX := fun ob cb X (hI : IsPol ob cb p X) (h : Below V.heap.size V X) => ptext_any p ob cb X hI (HE.out.on h)
  have HJU := fun ob cb X (hI : IsPol ob cb p X) => judge_any p ob cb k hk X hI
  have HCK := fun ob cb X (hI : IsPol ob cb p X) => pcheck_any p ob cb X hI
  have HSP := hide (fun ob cb X (h1 : IsPol ob cb p X) (h : Below V.heap.size V X) => samePol_any p ob oa cb cap X h1 (HP.out.on h))
  have HSE := fun X => same_errV (polF p) X
  obtain ⟨tx, htx⟩ : ∃ t : ByteArray, t = if polF p = 0 then bs (textP p) else ⟨#[]⟩ := ⟨_, rfl⟩
  obtain ⟨⟨⟨jk, je⟩, ji⟩, hj⟩ : ∃ j, j = if polF p = 0 then judgeR p k else (⟨0, 0⟩, 0) := ⟨_, rfl⟩
  have hTV : ptextV p = .tuple #[.string tx, errV (polF p)] := by rw [htx]; rfl
  have hJV : judgeV p k = .tuple #[verV (⟨jk, je⟩, ji), errV (polF p)] := by rw [hj]; unfold judgeV; split <;> rfl
  rw [hTV] at HTX
  rw [hJV] at HJU
  have HTXV := hide htx
  have HJV := hide hj
  clear htx hj hTV hJV
  obtain ⟨f, hf⟩ : ∃ f, f = polF p := ⟨_, rfl⟩
  obtain ⟨er, her⟩ : ∃ e, e = errV f := ⟨_, rfl⟩
  rw [← hf] at HPF HTX HJU HCK HSE HTXV HJV
  rw [← her] at HTX HJU HCK HSE
  have HF := hide hf
  have HER := hide her
  clear hf her
  unfold verV verC klV klC at HJU
  simp only at HJU
  clear hp hE hB hVs hvi
  unfold klC vsC at hV
  unfold polV at HLP HPF ⊢
  unfold vsV vsC at HLV ⊢
  unfold klV klC
  obtain ⟨n, hn⟩ : ∃ n, n = p.rules.length := ⟨_, rfl⟩
  rw [← hn] at HLP HPF hV HT ⊢
  have HN := hide hn
  clear hn
  obtain ⟨lz, hlz⟩ : ∃ z, z = lightB p := ⟨_, rfl⟩
  obtain ⟨lv, hlv⟩ : ∃ z, z = lightV v := ⟨_, rfl⟩
  rw [← hlz] at HLP
  rw [← hlv] at HLV
  have HLZ := hide hlz
  have HLV2 := hide hlv
  clear hlz hlv
  go_enter Tryz.func3, Tryz.ntmps3
  go_wp2_with fail
  rw [← hV]
  clear hV
  refine HLE.mono ?_
  rintro e X ⟨rfl, hX⟩
  have HX := hide hX
  clear hX HLE
  obtain ⟨a0, a1, a2⟩ := (HT.out.on HX.out).p
  go_wp2_with fail
  refine (HLP _ HX.out).mono ?_
  rintro e X ⟨rfl, hX⟩
  replace HX := hide (below_next HX.out hX)
  clear hX
  clear a0 a1 a2
  cases lz with
  | false =>
    go_wp2
    go_ret
    exact ⟨rfl, below_next HBW.out HX.out⟩
  | true =>
  obtain ⟨v0, v1, v2, v3, v4, v5, v6, v7, v8, v9, v10, v11⟩ := (HT.out.on HX.out).v
  go_wp2_with fail
  refine (HLV _).mono ?_
  rintro e X ⟨rfl, hX⟩
  replace HX := hide (below_next HX.out hX)
  clear hX
  clear v0 v1 v2 v3 v4 v5 v6 v7 v8 v9 v10 v11
  cases lv with
  | false =>
    go_wp2
    go_ret
    exact ⟨rfl, below_next HBW.out HX.out⟩
  | true =>
  replace HOW := HOW HLZ.out.symm
  have hvo := light_vals HLV2.out.symm HVI.out
  have HDE := fun oa cap X h => decide_any p oa cap k hk v hvo X h
  obtain ⟨⟨dk, de⟩, hd⟩ : ∃ d, d = if polF p = 0 then decideR p k v else ⟨0, 0⟩ := ⟨_, rfl⟩
  have hDV : decideV p k v = .tuple #[actV ⟨dk, de⟩, er] := by rw [hd, HER.out, HF.out]; unfold decideV; split <;> rfl
  rw [hDV] at HDE
  rw [← HF.out] at hd
  have HDV := hide hd
  clear hDV hd
  unfold actV klV klC vsV vsC at HDE
  simp only at HDE
  have HRD := fun hok X h => rdecide_any p hok oa cap k hk v hvo X h
  obtain ⟨a0, a1, a2⟩ := (HT.out.on HX.out).p
  go_wp2_with fail
  rw [show (Value.agg #[.slice oa n cap, .int .i64 p.els.kind, .int .i64 p.els.errno]) = polV p oa cap by rw [HN.out]; rfl]
  refine (HOW _ HX.out).mono ?_
  rintro e X ⟨⟨ob, cb, rfl, hI⟩, hX⟩
  replace HX := hide (below_next HX.out hX)
  have HI := hide hI
  clear hX hI a0 a1 a2 HOW
  unfold polV
  simp only
  rw [← HN.out]
  obtain ⟨O, hO, hOb, hOs, hOc⟩ := one_box X #[.slice ob n cb, .int .i64 p.els.kind, .int .i64 p.els.errno] 26
  have o0 := hOc 0
  have o1 := hOc 1
  have o2 := hOc 2
  simp only [List.getElem?_toArray, List.getElem?_cons_zero, List.getElem?_cons_succ] at o0 o1 o2
  obtain ⟨a0, a1, a2⟩ := (HT.out.on HX.out).p
  have l0 : w.heap.size < X.heap.size := block_lt_of_cell a0
  replace HX := hide (below_next HX.out hOb)
  replace HI := hide (HI.out.on hOb)
  clear hOc hOs hOb
  go_wp2_with fail
  rw [← hO]
  clear hO a0 a1 a2
  refine (HPF _ HX.out).mono ?_
  rintro e X1 ⟨rfl, hX⟩
  replace o0 := keep_cell hX o0
  replace o1 := keep_cell hX o1
  replace o2 := keep_cell hX o2
  replace HX := hide (below_next HX.out hX)
  replace HI := hide (HI.out.on hX)
  clear hX
  clear HPF
  go_wp2_with fail
  rw [show (Value.agg #[.slice ob n cb, .int .i64 p.els.kind, .int .i64 p.els.errno]) = polV p ob cb by rw [HN.out]; rfl]
  refine (HTX ob cb _ HI.out HX.out).mono ?_
  rintro e X2 ⟨rfl, hX⟩
  replace o0 := keep_cell hX o0
  replace o1 := keep_cell hX o1
  replace o2 := keep_cell hX o2
  replace HX := hide (below_next HX.out hX)
  replace HI := hide (HI.out.on hX)
  clear hX
  clear HTX
  obtain ⟨y0, y1, y2, y3, y4, y5⟩ := (HT.out.on HX.out).k
  go_wp2_with fail
  rw [show (Value.agg #[.slice ob n cb, .int .i64 p.els.kind, .int .i64 p.els.errno]) = polV p ob cb by rw [HN.out]; rfl]
  refine (HJU ob cb _ HI.out).mono ?_
  rintro e X3 ⟨rfl, hX⟩
  replace o0 := keep_cell hX o0
  replace o1 := keep_cell hX o1
  replace o2 := keep_cell hX o2
  replace HX := hide (below_next HX.out hX)
  replace HI := hide (HI.out.on hX)
  clear hX
  clear HJU y0 y1 y2 y3 y4 y5
  obtain ⟨J, hJ, hJb, hJs, hJc⟩ := one_box X3 #[.int .i64 jk, .int .i64 je, .int .i64 ji] 46
  have j0 := hJc 0
  have j1 := hJc 1
  have j2 := hJc 2
  simp only [List.getElem?_toArray, List.getElem?_cons_zero, List.getElem?_cons_succ] at j0 j1 j2
  obtain ⟨y0, y1, y2, y3, y4, y5⟩ := (HT.out.on HX.out).k
  obtain ⟨v0, v1, v2, v3, v4, v5, v6, v7, v8, v9, v10, v11⟩ := (HT.out.on HX.out).v
  have l1 : w.heap.size + 1 < X3.heap.size := block_lt_of_cell y0
  have l2 : w.heap.size + 2 < X3.heap.size := block_lt_of_cell v0
  have l3 : X.heap.size < X3.heap.size := block_lt_of_cell o0
  replace HX := hide (below_next HX.out hJb)
  replace HI := hide (HI.out.on hJb)
  have HJB := hide hJb
  clear hJc hJs hJb
  go_wp2_with fail
  rw [← hJ]
  clear hJ y0 y1 y2 y3 y4 y5 v0 v1 v2 v3 v4 v5 v6 v7 v8 v9 v10 v11
  replace o0 := keep_cell HJB.out o0
  replace o1 := keep_cell HJB.out o1
  replace o2 := keep_cell HJB.out o2
  clear HJB l1 l2 l3
  rw [show (Value.agg #[.slice ob n cb, .int .i64 p.els.kind, .int .i64 p.els.errno]) = polV p ob cb by rw [HN.out]; rfl]
  refine (HDE ob cb _ HI.out).mono ?_
  rintro e X5 ⟨rfl, hX⟩
  replace o0 := keep_cell hX o0
  replace o1 := keep_cell hX o1
  replace o2 := keep_cell hX o2
  replace j0 := keep_cell hX j0
  replace j1 := keep_cell hX j1
  replace j2 := keep_cell hX j2
  replace HX := hide (below_next HX.out hX)
  replace HI := hide (HI.out.on hX)
  clear hX
  clear HDE
  obtain ⟨D, hD, hDb, hDs, hDc⟩ := one_box X5 #[.int .i64 dk, .int .i64 de] 24
  have d0 := hDc 0
  have d1 := hDc 1
  simp only [List.getElem?_toArray, List.getElem?_cons_zero, List.getElem?_cons_succ] at d0 d1
  have l3 : X.heap.size < X5.heap.size := block_lt_of_cell o0
  replace HX := hide (below_next HX.out hDb)
  replace HI := hide (HI.out.on hDb)
  have HDB := hide hDb
  clear hDc hDs hDb
  go_wp2_with fail
  rw [← hD]
  clear hD l3
  replace o0 := keep_cell HDB.out o0
  replace o1 := keep_cell HDB.out o1
  replace o2 := keep_cell HDB.out o2
  replace j0 := keep_cell HDB.out j0
  replace j1 := keep_cell HDB.out j1
  replace j2 := keep_cell HDB.out j2
  clear HDB
  rw [show (Value.agg #[.slice ob n cb, .int .i64 p.els.kind, .int .i64 p.els.errno]) = polV p ob cb by rw [HN.out]; rfl]
  refine (HCK ob cb _ HI.out).mono ?_
  rintro e X7 ⟨rfl, hX⟩
  replace o0 := keep_cell hX o0
  replace o1 := keep_cell hX o1
  replace o2 := keep_cell hX o2
  replace j0 := keep_cell hX j0
  replace j1 := keep_cell hX j1
  replace j2 := keep_cell hX j2
  replace d0 := keep_cell hX d0
  replace d1 := keep_cell hX d1
  replace HX := hide (below_next HX.out hX)
  replace HI := hide (HI.out.on hX)
  clear hX
  clear HCK
  obtain ⟨a0, a1, a2⟩ := (HT.out.on HX.out).p
  go_wp2_with (go_at_call 13; refine (HSE _).mono ?_; rintro e w' ⟨rfl, hw'⟩; rw [hw']; clear hw' w')
  rw [show (Value.agg #[.slice oa n cap, .int .i64 p.els.kind, .int .i64 p.els.errno]) = polV p oa cap by rw [HN.out]; rfl, show (Value.agg #[.slice ob n cb, .int .i64 p.els.kind, .int .i64 p.els.errno]) = polV p ob cb by rw [HN.out]; rfl]
  refine (HSP.out ob cb _ HI.out HX.out).mono ?_
  rintro e X8 ⟨rfl, hX⟩
  replace j0 := keep_cell hX j0
  replace j1 := keep_cell hX j1
  replace j2 := keep_cell hX j2
  replace d0 := keep_cell hX d0
  replace d1 := keep_cell hX d1
  replace HX := hide (below_next HX.out hX)
  clear hX
  clear HSP HI HSE a0 a1 a2 o0 o1 o2
  by_cases hf0 : f = 0
  case neg =>
    have hfp : (0 : Int) < f := by omega
    have e1 := HTXV.out
    have e2 := HJV.out
    have e3 := HDV.out
    rw [if_neg hf0] at e1 e2 e3
    subst e1
    obtain ⟨⟨rfl, rfl⟩, rfl⟩ : (jk = 0 ∧ je = 0) ∧ ji = 0 := by simpa using e2
    obtain ⟨rfl, rfl⟩ : dk = 0 ∧ de = 0 := by simpa using e3
    clear e2 e3 hf0 HTXV HJV HDV
    go_wp2
    go_ret
    exact ⟨rfl, below_next HBW.out HX.out⟩
  case pos =>
    have e1 := HTXV.out
    have e2 := HJV.out
    have e3 := HDV.out
    rw [if_pos hf0] at e1 e2 e3
    have hok := pol_ok (HF.out.symm.trans hf0) HPK.out
    subst hf0
    have hIP := fun d os => (HP.out.on HX.out).on (below_regrown X8 d os)
    have HRT := fun d os => rpolText_any p hok oa cap _ (hIP d os)
    have HRJ := fun d os => rjudge_any p hok oa cap k hk _ (hIP d os)
    have HRD2 := fun d os => HRD hok _ (hIP d os)
    rw [← e1] at HRT
    rw [← e2] at HRJ
    rw [← e3] at HRD2
    unfold polV at HRT HRJ HRD2
    unfold klV klC at HRJ HRD2
    unfold vsV vsC actV at HRD2
    unfold verV verC at HRJ
    rw [← HN.out] at HRT HRJ HRD2
    simp only at HRT HRJ HRD2
    clear e1 e2 e3 hIP hok HTXV HJV HDV
    obtain ⟨a0, a1, a2⟩ := (HT.out.on HX.out).p
    obtain ⟨y0, y1, y2, y3, y4, y5⟩ := (HT.out.on HX.out).k
    obtain ⟨v0, v1, v2, v3, v4, v5, v6, v7, v8, v9, v10, v11⟩ := (HT.out.on HX.out).v
    have Ga0 := cell_regrown a0
    have Ga1 := cell_regrown a1
    have Ga2 := cell_regrown a2
    have Gy0 := cell_regrown y0
    have Gy1 := cell_regrown y1
    have Gy2 := cell_regrown y2
    have Gy3 := cell_regrown y3
    have Gy4 := cell_regrown y4
    have Gy5 := cell_regrown y5
    have Gv0 := cell_regrown v0
    have Gv1 := cell_regrown v1
    have Gv2 := cell_regrown v2
    have Gv3 := cell_regrown v3
    have Gv4 := cell_regrown v4
    have Gv5 := cell_regrown v5
    have Gv6 := cell_regrown v6
    have Gv7 := cell_regrown v7
    have Gv8 := cell_regrown v8
    have Gv9 := cell_regrown v9
    have Gv10 := cell_regrown v10
    have Gv11 := cell_regrown v11
    have Gj0 := cell_regrown j0
    have Gj1 := cell_regrown j1
    have Gj2 := cell_regrown j2
    have Gd0 := cell_regrown d0
    have Gd1 := cell_regrown d1
    have cT : ∀ d os, Calls Tryz.prog 16 #[.agg #[.slice oa n cap, .int .i64 p.els.kind, .int .i64 p.els.errno]] (grow (redrawn X8 d) os) fun e w'' => e = .returned (.string tx) ∧ ∃ p : Regrown, w'' = grow (redrawn X8 p.d) p.os := fun d os => Calls.regrown_of (HRT d os)
    have cJ : ∀ d os, Calls Tryz.prog 17 #[.agg #[.slice oa n cap, .int .i64 p.els.kind, .int .i64 p.els.errno], .agg #[.int .u32 k.arch, .int .u32 k.nr, .int .u64 k.a0, .int .u64 k.a1, .int .u64 k.a2, .int .u64 k.a3]] (grow (redrawn X8 d) os) fun e w'' => e = .returned (.agg #[.int .i64 jk, .int .i64 je, .int .i64 ji]) ∧ ∃ p : Regrown, w'' = grow (redrawn X8 p.d) p.os := fun d os => Calls.regrown_of (HRJ d os)
    have cD : ∀ d os, Calls Tryz.prog 18 #[.agg #[.slice oa n cap, .int .i64 p.els.kind, .int .i64 p.els.errno], .agg #[.int .u32 k.arch, .int .u32 k.nr, .int .u64 k.a0, .int .u64 k.a1, .int .u64 k.a2, .int .u64 k.a3], .agg #[.string v.v0.path, .int .u32 v.v0.ip, .int .i64 v.v0.port, .string v.v1.path, .int .u32 v.v1.ip, .int .i64 v.v1.port, .string v.v2.path, .int .u32 v.v2.ip, .int .i64 v.v2.port, .string v.v3.path, .int .u32 v.v3.ip, .int .i64 v.v3.port]] (grow (redrawn X8 d) os) fun e w'' => e = .returned (.agg #[.int .i64 dk, .int .i64 de]) ∧ ∃ p : Regrown, w'' = grow (redrawn X8 p.d) p.os := fun d os => Calls.regrown_of (HRD2 d os)
    clear HRT HRJ HRD2
    go_wp2_with fail
    refine wp_region_quiet_below (by kernel_rfl) (by kernel_rfl) ?_
    repeat (go_big_quiet_step (first | (go_at_call 16; exact cT _ _) | (go_at_call 17; exact cJ _ _) | (go_at_call 18; exact cD _ _)))
    refine wpQuiet_nil ?_
    intro _ hw'
    obtain ⟨⟨dq, osq⟩, hw''⟩ := hw'
    subst hw''
    go_wp2
    go_ret
    exact ⟨rfl, below_next (below_next HBW.out HX.out) (below_regrown _ _ _)⟩
end Go.Proofs.YtkogafponpjdnaaGreatDoor

namespace Go.Proofs.YtkogafponpjdnaaGreatDoor
open Go.ChangeShapes Go.WideShapes Go.ChangeAt Go.WideMaps Go.WideElems Go.RowKit

set_option maxRecDepth 100000 in
theorem policySays_lifted (os : Os) (started : os.Started) (H : Type) (enc : TypeId × Value → H) :
    ReturnsInHanded {} Tryz.checked os 3 .any (fun w args => (Rows.policySaysSpec.pre enc Tryz.prog Tryz.f3 [] false w args ∧ laidMetH Tryz.prog Rows.policySaysRow.laid w) ∧ sizedMet enc Tryz.prog Tryz.f3 (OpenSpec.ofChange Rows.policySaysSpec) false w args)
      (Rows.policySaysSpec.post enc Tryz.prog Tryz.f3 false true false false) := by
  refine lift_shaped (X := fun w => laidMetH Tryz.prog Rows.policySaysRow.laid w) (fun _ _ hh h => h.of_heap hh) started (by kernel_rfl) Tryz.func3
    (ChangeSpec.witness_shaped (enc := enc) (C := Tryz.checked) (os := os) (X := fun w _ => laidMetH Tryz.prog Rows.policySaysRow.laid w) false (World.laidAll Tryz.prog os Rows.policySaysRow.laid) #[.agg #[.slice none 0 0, .int .i64 0, .int .i64 0], .agg #[.int .u32 0, .int .u32 0, .int .u64 0, .int .u64 0, .int .u64 0, .int .u64 0], .agg #[.string ⟨#[]⟩, .int .u32 0, .int .i64 0, .string ⟨#[]⟩, .int .u32 0, .int .i64 0, .string ⟨#[]⟩, .int .u32 0, .int .i64 0, .string ⟨#[]⟩, .int .u32 0, .int .i64 0]] 8 (World.laidAll_os _ _ _) (World.shaped_of_ZipB (by kernel_rfl) (by kernel_rfl)) (by kernel_rfl) (by kernel_rfl) (by kernel_rfl) (by rw [MakeChecks.laidMetH_plain _ _ _ (by kernel_rfl)]; exact laidMet_laidAll _ (by kernel_rfl) (by kernel_rfl))) ?_
  intro W base args ds gs before hval0 hW hL hsh
  have hval : ∀ (j : Nat) t v, Tryz.f3.params[j]? = some t → args[j]? = some v → Value.okWide Tryz.prog W .any base t v := hval0
  have hW' := hW
  obtain ⟨p, q, hA0, hV, rfl, hfz, hnd⟩ := hW
  have hA : DataW.TrodAll enc Tryz.prog W 0 (fun _ => true) true Tryz.f3.params.toList args.toList ds p := hA0
  rw [Tryz.params3] at hA hval
  obtain ⟨v0, v1, v2, d0, d1, d2, p0, p1, p2, rfl, rfl, rfl, h0, h1, h2⟩ := trodAll_three hA
  obtain ⟨rfl, rfl⟩ := trodVars_none hV
  obtain ⟨pl, oa, cap, rfl, hpl⟩ := open_pol (hval 0 26 v0 rfl rfl) h0
  obtain ⟨k, rfl, hk⟩ := open_call (hval 1 31 v1 rfl rfl) h1
  obtain ⟨v, rfl, hv⟩ := open_vals (hval 2 35 v2 rfl rfl) h2
  clear hA0 hval0
  simp only [List.append_nil] at hW'
  refine (policySays_any pl oa cap k hk v hv W hpl (ev_of hL rfl ⟨_, rfl⟩ hsh)).mono fun e W' ⟨he, hb⟩ => ?_
  subst he
  have hlt : ∀ x ∈ p0 ++ p1 ++ p2, x.block < W.heap.size := fun x hx => by simpa using hW'.lt x hx
  exact ⟨_, rfl, post_law' (pa := p0 ++ (p1 ++ p2)) (pv := []) hW' (fun _ _ _ => trodAll_mk1 (shut_bool Tryz.underlying4 _))
    (trodAll_mk3 (Below.trod laidOut (by kernel_rfl) (of_decide_eq_true (by kernel_rfl)) h0 hb fun x hx => hlt x (List.mem_append.2 (.inl (List.mem_append.2 (.inl hx))))) (Below.trod laidOut (by kernel_rfl) (of_decide_eq_true (by kernel_rfl)) h1 hb fun x hx => hlt x (List.mem_append.2 (.inl (List.mem_append.2 (.inr hx))))) (Below.trod laidOut (by kernel_rfl) (of_decide_eq_true (by kernel_rfl)) h2 hb fun x hx => hlt x (List.mem_append.2 (.inr hx)))) (fun _ _ => rfl) (by simp) hb⟩

theorem policySays_said : Rows.PolicySaysSaid :=
  OpenClaim.holds_of_wide 3 Tryz.f3 rfl rfl rfl rfl rfl rfl rfl ⟨rfl, rfl, rfl, rfl, rfl⟩ rfl rfl rfl rfl rfl (by kernel_rfl) Tryz.func3 (by kernel_rfl)
    (of_decide_eq_true (by kernel_rfl)) (by unfold Func.isWrapper; first | (rw [if_pos (by decide +kernel)]; kernel_rfl) | (rw [if_neg (by decide +kernel)]; exact ⟨rfl, rfl⟩))
    (fun os started H enc _ => policySays_lifted os started H enc)

set_option maxRecDepth 100000 in
/-- No parameter wants a stand-in. -/
theorem policySays_plain (f : FuncId) (fn : Func) (hf : Tryz.pinned.checked.prog.funcNamed "doorward/doorwardlaw.PolicySays" = some f) (hfn : Tryz.pinned.checked.prog.funcs[f]? = some fn) :
    true = Tryz.pinned.checked.prog.looks [] ∧ ∀ (j : Nat) t, fn.params[j]? = some t → Tryz.pinned.checked.prog.wantsStandIn t = false := by
  obtain rfl : f = 3 := Option.some.inj ((show Tryz.prog.funcNamed "doorward/doorwardlaw.PolicySays" = some 3 by kernel_rfl).symm.trans hf) |>.symm
  obtain rfl : fn = Tryz.f3 := (Option.some.inj (Tryz.func3.symm.trans hfn)).symm
  refine ⟨by kernel_rfl, fun j t ht => ?_⟩
  rw [Tryz.params3] at ht
  match j, ht with
  | 0, ht => obtain rfl := Option.some.inj ht; exact (by kernel_rfl : Tryz.pinned.checked.prog.wantsStandIn 26 = false)
  | 1, ht => obtain rfl := Option.some.inj ht; exact (by kernel_rfl : Tryz.pinned.checked.prog.wantsStandIn 31 = false)
  | 2, ht => obtain rfl := Option.some.inj ht; exact (by kernel_rfl : Tryz.pinned.checked.prog.wantsStandIn 35 = false)
  | j + 3, ht => simp at ht

theorem policySays_card : Rows.PolicySaysCardSaid :=
  Claim7.holds_tied_plain_at .later [] _ _ _ _ policySays_said (fun _ h => by cases h) (by kernel_rfl) (fun _ h => by cases h) policySays_row_tie rfl ⟨rfl, rfl⟩ (by kernel_rfl) rfl policySays_plain (by kernel_rfl)
#print axioms policySays_card
end Go.Proofs.YtkogafponpjdnaaGreatDoor
