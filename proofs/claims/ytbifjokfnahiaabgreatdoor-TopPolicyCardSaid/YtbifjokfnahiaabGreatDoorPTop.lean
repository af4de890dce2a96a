/- TopPolicy returns true. -/
import Derived.Test.YtbifjokfnahiaabGreatDoorK22
import Derived.Test.YtbifjokfnahiaabGreatDoorPOwn
namespace Go.Proofs.YtbifjokfnahiaabGreatDoor
open Go.RowKit Go.Sort

/-- What TopPolicy was handed, in boxes of its own. -/
structure TB (w : World) (n : Nat) (oa : Option Addr) (cap : Nat) (a : ACT) (k : KL) (v : VS) (X : World) : Prop where
  pol : ∀ j : Nat, X.cell? ⟨w.heap.size, j, none⟩ = (#[.slice oa n cap, .int .i64 a.kind, .int .i64 a.errno] : Array Value)[j]?
  call : ∀ j : Nat, X.cell? ⟨w.heap.size + 1, j, none⟩ = (klC k)[j]?
  vals : ∀ j : Nat, X.cell? ⟨w.heap.size + 2, j, none⟩ = (vsC v)[j]?
  lt : w.heap.size + 2 < X.heap.size
theorem TB.on {w : World} {n : Nat} {oa : Option Addr} {cap : Nat} {a : ACT} {k : KL} {v : VS} {X Y : World} (h : TB w n oa cap a k v X) (hb : Below X.heap.size X Y) : TB w n oa cap a k v Y := by
  have hl := h.lt
  exact ⟨fun j => ((bcell hb).1 _ j (by omega)).trans (h.pol j), fun j => ((bcell hb).1 _ j (by omega)).trans (h.call j), fun j => ((bcell hb).1 _ j (by omega)).trans (h.vals j), Nat.lt_of_lt_of_le hl hb.size⟩
theorem TB.p {w : World} {n : Nat} {oa : Option Addr} {cap : Nat} {a : ACT} {k : KL} {v : VS} {X : World} (h : TB w n oa cap a k v X) :
    X.cell? ⟨w.heap.size, 0, none⟩ = some (.slice oa n cap) ∧ X.cell? ⟨w.heap.size, 1, none⟩ = some (.int .i64 a.kind) ∧ X.cell? ⟨w.heap.size, 2, none⟩ = some (.int .i64 a.errno) := ⟨h.pol 0, h.pol 1, h.pol 2⟩
theorem TB.k {w : World} {n : Nat} {oa : Option Addr} {cap : Nat} {a : ACT} {k : KL} {v : VS} {X : World} (h : TB w n oa cap a k v X) :
    X.cell? ⟨w.heap.size + 1, 0, none⟩ = some (.int .u32 k.arch) ∧ X.cell? ⟨w.heap.size + 1, 1, none⟩ = some (.int .u32 k.nr) ∧ X.cell? ⟨w.heap.size + 1, 2, none⟩ = some (.int .u64 k.a0) ∧ X.cell? ⟨w.heap.size + 1, 3, none⟩ = some (.int .u64 k.a1) ∧ X.cell? ⟨w.heap.size + 1, 4, none⟩ = some (.int .u64 k.a2) ∧ X.cell? ⟨w.heap.size + 1, 5, none⟩ = some (.int .u64 k.a3) :=
  ⟨h.call 0, h.call 1, h.call 2, h.call 3, h.call 4, h.call 5⟩
theorem TB.v {w : World} {n : Nat} {oa : Option Addr} {cap : Nat} {a : ACT} {k : KL} {v : VS} {X : World} (h : TB w n oa cap a k v X) :
    X.cell? ⟨w.heap.size + 2, 0, none⟩ = some (.string v.v0.path) ∧ X.cell? ⟨w.heap.size + 2, 1, none⟩ = some (.int .u32 v.v0.ip) ∧ X.cell? ⟨w.heap.size + 2, 2, none⟩ = some (.int .i64 v.v0.port) ∧
    X.cell? ⟨w.heap.size + 2, 3, none⟩ = some (.string v.v1.path) ∧ X.cell? ⟨w.heap.size + 2, 4, none⟩ = some (.int .u32 v.v1.ip) ∧ X.cell? ⟨w.heap.size + 2, 5, none⟩ = some (.int .i64 v.v1.port) ∧
    X.cell? ⟨w.heap.size + 2, 6, none⟩ = some (.string v.v2.path) ∧ X.cell? ⟨w.heap.size + 2, 7, none⟩ = some (.int .u32 v.v2.ip) ∧ X.cell? ⟨w.heap.size + 2, 8, none⟩ = some (.int .i64 v.v2.port) ∧
    X.cell? ⟨w.heap.size + 2, 9, none⟩ = some (.string v.v3.path) ∧ X.cell? ⟨w.heap.size + 2, 10, none⟩ = some (.int .u32 v.v3.ip) ∧ X.cell? ⟨w.heap.size + 2, 11, none⟩ = some (.int .i64 v.v3.port) :=
  ⟨h.vals 0, h.vals 1, h.vals 2, h.vals 3, h.vals 4, h.vals 5, h.vals 6, h.vals 7, h.vals 8, h.vals 9, h.vals 10, h.vals 11⟩
theorem light_vals {v : VS} (h : lightV v = true) (hi : VsIn v) : VsOk v := by
  unfold lightV at h
  simp only [lightTo, Bool.true_and, Bool.and_eq_true] at h
  obtain ⟨⟨⟨h0, h1⟩, h2⟩, h3⟩ := h
  have key : ∀ i, i ≤ 3 → lightVL (v.at i) = true → VlOk (v.at i) := fun i hi3 hl => by
    obtain ⟨_, b, c⟩ := hi i hi3
    unfold lightVL at hl
    have := of_decide_eq_true hl
    exact ⟨by omega, b, c⟩
  exact ⟨key 0 (by omega) h0, key 1 (by omega) h1, key 2 (by omega) h2, key 3 (by omega) h3⟩
theorem IsPol.drop {b off cap : Nat} {p : POL} {W : World} (h : IsPol (some ⟨b, off, none⟩) cap p W) (i : Nat) : IsPol (some ⟨b, off + i * 4, none⟩) (cap - i) ⟨p.rules.drop i, p.els⟩ W := by
  refine ⟨⟨fun h0 => ?_⟩, ?_, by have := h.cap; omega, ⟨fun r hr => h.ok.rules r (List.mem_of_mem_drop hr), h.ok.els⟩⟩
  · simp only [List.length_drop] at h0
    obtain ⟨b', off', e, h1, h2⟩ := h.rules.lie (by omega)
    simp only [Option.some.injEq, Addr.mk.injEq] at e
    obtain ⟨rfl, rfl, _⟩ := e
    refine ⟨b, off + i * 4, rfl, h1, fun j r hj => ?_⟩
    simp only [List.getElem?_drop] at hj
    obtain ⟨ca, cc, hR⟩ := h2 (i + j) r hj
    rw [show off + (i + j) * 4 = off + i * 4 + j * 4 by omega] at hR
    exact ⟨ca, cc, hR⟩
  · simp only [List.length_drop]
    have := h.le
    omega
theorem IsPol.some {oa : Option Addr} {cap : Nat} {p : POL} {W : World} (h : IsPol oa cap p W) (h0 : 0 < p.rules.length) : ∃ b off, oa = some ⟨b, off, none⟩ := by
  obtain ⟨b, off, e, _⟩ := h.rules.lie h0
  exact ⟨b, off, e⟩

set_option maxHeartbeats 8000000 in
set_option maxRecDepth 100000 in
theorem topPolicy_any (p : POL) (oa : Option Addr) (cap : Nat) (k : KL) (hk : KlOk k) (v : VS) (hvi : VsIn v) (w : World) (hp : IsPol oa cap p w) (hE : EV w) :
    Calls Tryz.prog 3 #[polV p oa cap, klV k, vsV v] w fun e w' => e = .returned (.bool true) ∧ Below w.heap.size w w' := by
  obtain ⟨V, hV, hB, hVs, hx, hy, hz⟩ := three_box w #[.slice oa p.rules.length cap, .int .i64 p.els.kind, .int .i64 p.els.errno] (klC k) (vsC v) 26 31 35
  have HT : Hid (TB w p.rules.length oa cap p.els k v V) := hide ⟨hx, hy, fun j => cell_of_row _ _ j _ _ _ hz, by omega⟩
  clear hx hy hz
  have HP := hide (hp.on hB)
  have HE := hide (hE.on hB)
  have HBW := hide hB
  have hmax : p.rules.length ≤ 9223372036854775807 := by have h1 := hp.le; have h2 := hp.cap; unfold maxLen at h2; omega
  have HPK := hide hp.ok
  have HLP := lightPol_any p oa cap V HP.out
  have HLV := fun X => lightVals_any v X
  have HCK := fun X (hX : Below V.heap.size V X) => pcheck_any p oa cap X (HP.out.on hX)
  clear hp hE hB hVs
  unfold klC vsC at hV
  unfold polV at HLP HCK ⊢
  unfold vsV vsC at HLV ⊢
  unfold klV klC
  obtain ⟨n, hn⟩ : ∃ n, n = p.rules.length := ⟨_, rfl⟩
  rw [← hn] at HLP HCK hV HT hmax ⊢
  have HN := hide hn
  clear hn
  obtain ⟨a0, a1, a2⟩ := HT.out.p
  cases hl1 : lightB p with
  | false =>
    rw [hl1] at HLP
    go_enter Tryz.func3, Tryz.ntmps3
    go_wp2_with (go_at_call 4; rw [← hV]; refine HLP.mono ?_; rintro e X ⟨rfl, hX⟩)
    go_ret
    exact ⟨rfl, below_next HBW.out hX⟩
  | true =>
  rw [hl1] at HLP
  cases hl2 : lightV v with
  | false =>
    rw [hl2] at HLV
    go_enter Tryz.func3, Tryz.ntmps3
    go_wp2_with (first
      | (go_at_call 4; rw [← hV]; refine HLP.mono ?_; rintro e X ⟨rfl, hX⟩; have HX := hide hX; clear hX; obtain ⟨v0, v1, v2, v3, v4, v5, v6, v7, v8, v9, v10, v11⟩ := (HT.out.on HX.out).v)
      | (go_at_call 5; refine (HLV _).mono ?_; rintro e X1 ⟨rfl, hX1⟩))
    go_ret
    exact ⟨rfl, below_next HBW.out (below_next HX.out hX1)⟩
  | true =>
  rw [hl2] at HLV
  by_cases hf : polF p = 0
  case neg =>
    rw [errV_pos hf] at HCK
    go_enter Tryz.func3, Tryz.ntmps3
    go_wp2_with (first
      | (go_at_call 4; rw [← hV]; refine HLP.mono ?_; rintro e X ⟨rfl, hX⟩; have HX := hide hX; clear hX; obtain ⟨v0, v1, v2, v3, v4, v5, v6, v7, v8, v9, v10, v11⟩ := (HT.out.on HX.out).v)
      | (go_at_call 5; refine (HLV _).mono ?_; rintro e X1 ⟨rfl, hX1⟩; have HX1 := hide (below_next HX.out hX1); clear hX1; obtain ⟨b0, b1, b2⟩ := (HT.out.on HX1.out).p)
      | (go_at_call 6; refine (HCK _ HX1.out).mono ?_; rintro e X2 ⟨rfl, hX2⟩))
    go_ret
    exact ⟨rfl, below_next HBW.out (below_next HX1.out hX2)⟩
  rw [hf, errV_zero] at HCK
  have hok := pol_ok hf HPK.out
  have hvo := light_vals hl2 hvi
  have HTX := fun X (h : Below V.heap.size V X) => ptext_any p oa cap X (HP.out.on h) (HE.out.on h)
  have HJU := fun X (h : Below V.heap.size V X) => judge_any p oa cap k hk X (HP.out.on h)
  have HDE := fun X (h : Below V.heap.size V X) => decide_any p oa cap k hk v hvo X (HP.out.on h)
  have HTV : ptextV p = .tuple #[.string (bs (textP p)), .nilIface] := by unfold ptextV; rw [if_pos hf, hf, errV_zero]
  have hpp : parseP (textP p) = (p, 0) := by
    unfold parseP
    rw [if_neg (by have := text_len hok; omega), docP_text hok hf]
  have HPA := fun X (h : Below V.heap.size V X) => pparse_any (textP p) (by have := text_len hok; omega) X (HE.out.on h)
  rw [hpp, errV_zero] at HPA
  rw [HTV] at HTX
  have hjv : judgeV p k = .tuple #[verV (judgeR p k), .nilIface] := by unfold judgeV; rw [if_pos hf, hf, errV_zero]
  have hdv : decideV p k v = .tuple #[actV (decideR p k v), .nilIface] := by unfold decideV; rw [if_pos hf, hf, errV_zero]
  rw [hjv] at HJU
  rw [hdv] at HDE
  have HLAW := hide (top_laws hok k v)
  have HDR := hide (fun i => show decideV ⟨p.rules.drop i, p.els⟩ k v = .tuple #[actV (decideR ⟨p.rules.drop i, p.els⟩ k v), .nilIface] by unfold decideV; rw [if_pos (polF_drop hf i), polF_drop hf i, errV_zero])
  have HOW := fun X (h : Below V.heap.size V X) => own_any p (by have := hok.few; omega) (fun r hr => by have := (hok.rules r hr).few; omega) oa cap X (HP.out.on h)
  have HD2 := hide (fun (q : POL) ob cb X (h : IsPol ob cb q X) => decide_any q ob cb k hk v hvo X h)
  have HSP := hide (fun ob cb X (h1 : IsPol ob cb p X) (h : Below V.heap.size V X) => samePol_any p ob oa cb cap X h1 (HP.out.on h))
  clear hk hvi hvo hl1 hl2 hpp hjv hdv HTV HPK
  obtain ⟨tx, htx⟩ : ∃ t, t = bs (textP p) := ⟨_, rfl⟩
  rw [← htx] at HTX HPA
  clear htx
  obtain ⟨⟨⟨jk, je⟩, ji⟩, hj⟩ : ∃ j, j = judgeR p k := ⟨_, rfl⟩
  obtain ⟨⟨dk, de⟩, hd⟩ : ∃ d, d = decideR p k v := ⟨_, rfl⟩
  rw [← hj] at HJU HLAW
  rw [← hd] at HDE HLAW
  unfold verV verC at HJU
  unfold actV at HDE
  simp only at HJU HDE HLAW
  clear hj hd hf hok
  go_enter Tryz.func3, Tryz.ntmps3
  go_wp2_with fail
  rw [← hV]
  refine HLP.mono ?_
  rintro e X1 ⟨rfl, hX⟩
  have HX := hide hX
  clear hX hV HLP a0 a1 a2
  obtain ⟨v0, v1, v2, v3, v4, v5, v6, v7, v8, v9, v10, v11⟩ := (HT.out.on HX.out).v
  go_wp2_with fail
  refine (HLV _).mono ?_
  rintro e X2 ⟨rfl, hX⟩
  replace HX := hide (below_next HX.out hX)
  clear hX HLV v0 v1 v2 v3 v4 v5 v6 v7 v8 v9 v10 v11
  obtain ⟨a0, a1, a2⟩ := (HT.out.on HX.out).p
  go_wp2_with fail
  refine (HCK _ HX.out).mono ?_
  rintro e X3 ⟨rfl, hX⟩
  replace HX := hide (below_next HX.out hX)
  clear hX HCK a0 a1 a2
  obtain ⟨a0, a1, a2⟩ := (HT.out.on HX.out).p
  go_wp2_with fail
  rw [show (Value.agg #[.slice oa n cap, .int .i64 p.els.kind, .int .i64 p.els.errno]) = polV p oa cap by rw [HN.out]; rfl]
  refine (HTX _ HX.out).mono ?_
  rintro e X4 ⟨rfl, hX⟩
  replace HX := hide (below_next HX.out hX)
  clear hX HTX a0 a1 a2
  go_wp2_with fail
  refine (HPA _ HX.out).mono ?_
  rintro e X5 ⟨⟨ob, cb, rfl, hI⟩, hX⟩
  replace HX := hide (below_next HX.out hX)
  unfold polV
  simp only
  rw [← HN.out]
  obtain ⟨Y5, hY5, hY5b, _, hY5c⟩ := one_box X5 #[.slice ob n cb, .int .i64 p.els.kind, .int .i64 p.els.errno] 26
  have p0 := hY5c 0
  have p1 := hY5c 1
  have p2 := hY5c 2
  simp only [List.getElem?_toArray, List.getElem?_cons_zero, List.getElem?_cons_succ] at p0 p1 p2
  have HP0 := hide p0
  have HP1 := hide p1
  have HP2 := hide p2
  have HI := hide (hI.on hY5b)
  obtain ⟨a0, a1, a2⟩ := (HT.out.on HX.out).p
  obtain ⟨k0, k1, k2, k3, k4, k5⟩ := (HT.out.on HX.out).k
  have l2 : w.heap.size + 2 < X5.heap.size := (HT.out.on HX.out).lt
  have l0 : w.heap.size < X5.heap.size := by omega
  have l1 : w.heap.size + 1 < X5.heap.size := by omega
  replace HX := hide (below_next HX.out hY5b)
  clear hX HPA hI hY5c p0 p1 p2
  go_wp2_with fail
  rw [← hY5]
  rw [show (Value.agg #[.slice oa n cap, .int .i64 p.els.kind, .int .i64 p.els.errno]) = polV p oa cap by rw [HN.out]; rfl]
  refine (HJU _ HX.out).mono ?_
  rintro e X6 ⟨rfl, hX⟩
  clear hY5 a0 a1 a2 k0 k1 k2 k3 k4 k5 l0 l1 l2 HJU
  replace HP0 := hide (keep_cell hX HP0.out)
  replace HP1 := hide (keep_cell hX HP1.out)
  replace HP2 := hide (keep_cell hX HP2.out)
  replace HI := hide (HI.out.on hX)
  replace HX := hide (below_next HX.out hX)
  clear hX
  obtain ⟨Y6, hY6, hY6b, _, hY6c⟩ := one_box X6 #[.int .i64 jk, .int .i64 je, .int .i64 ji] 46
  have p0 := hY6c 0
  have p1 := hY6c 1
  have p2 := hY6c 2
  simp only [List.getElem?_toArray, List.getElem?_cons_zero, List.getElem?_cons_succ] at p0 p1 p2
  have HV0 := hide p0
  have HV1 := hide p1
  have HV2 := hide p2
  obtain ⟨a0, a1, a2⟩ := (HT.out.on HX.out).p
  obtain ⟨k0, k1, k2, k3, k4, k5⟩ := (HT.out.on HX.out).k
  obtain ⟨v0, v1, v2, v3, v4, v5, v6, v7, v8, v9, v10, v11⟩ := (HT.out.on HX.out).v
  have l2 : w.heap.size + 2 < X6.heap.size := (HT.out.on HX.out).lt
  have l0 : w.heap.size < X6.heap.size := by omega
  have l1 : w.heap.size + 1 < X6.heap.size := by omega
  replace HP0 := hide (keep_cell hY6b HP0.out)
  replace HP1 := hide (keep_cell hY6b HP1.out)
  replace HP2 := hide (keep_cell hY6b HP2.out)
  replace HI := hide (HI.out.on hY6b)
  replace HX := hide (below_next HX.out hY6b)
  clear hY6c p0 p1 p2
  go_wp2_with fail
  rw [← hY6]
  rw [show (Value.agg #[.slice oa n cap, .int .i64 p.els.kind, .int .i64 p.els.errno]) = polV p oa cap by rw [HN.out]; rfl]
  refine (HDE _ HX.out).mono ?_
  rintro e X7 ⟨rfl, hX⟩
  clear hY6 a0 a1 a2 k0 k1 k2 k3 k4 k5 v0 v1 v2 v3 v4 v5 v6 v7 v8 v9 v10 v11 l0 l1 l2 HDE
  replace HP0 := hide (keep_cell hX HP0.out)
  replace HP1 := hide (keep_cell hX HP1.out)
  replace HP2 := hide (keep_cell hX HP2.out)
  replace HV0 := hide (keep_cell hX HV0.out)
  replace HV1 := hide (keep_cell hX HV1.out)
  replace HV2 := hide (keep_cell hX HV2.out)
  replace HI := hide (HI.out.on hX)
  replace HX := hide (below_next HX.out hX)
  clear hX
  obtain ⟨Y7, hY7, hY7b, _, hY7c⟩ := one_box X7 #[.int .i64 dk, .int .i64 de] 24
  have q0 := hY7c 0
  have q1 := hY7c 1
  simp only [List.getElem?_toArray, List.getElem?_cons_zero, List.getElem?_cons_succ] at q0 q1
  have HQ0 := hide q0
  have HQ1 := hide q1
  obtain ⟨a0, a1, a2⟩ := (HT.out.on HX.out).p
  have l2 : w.heap.size + 2 < X7.heap.size := (HT.out.on HX.out).lt
  have l0 : w.heap.size < X7.heap.size := by omega
  have p0 := HP0.out
  have p1 := HP1.out
  have p2 := HP2.out
  have l5 : X5.heap.size < X7.heap.size := block_lt_of_cell p0
  replace HV0 := hide (keep_cell hY7b HV0.out)
  replace HV1 := hide (keep_cell hY7b HV1.out)
  replace HV2 := hide (keep_cell hY7b HV2.out)
  replace HI := hide (HI.out.on hY7b)
  replace HX := hide (below_next HX.out hY7b)
  clear hY7c q0 q1
  go_wp2_with fail
  rw [← hY7]
  rw [show (Value.agg #[.slice oa n cap, .int .i64 p.els.kind, .int .i64 p.els.errno]) = polV p oa cap by rw [HN.out]; rfl, show (Value.agg #[.slice ob n cb, .int .i64 p.els.kind, .int .i64 p.els.errno]) = polV p ob cb by rw [HN.out]; rfl]
  refine (HSP.out ob cb _ HI.out HX.out).mono ?_
  rintro e X8 ⟨rfl, hX⟩
  clear hY7 a0 a1 a2 p0 p1 p2 l0 l2 l5 HP0 HP1 HP2 HSP HI
  have v0 := keep_cell hX HV0.out
  have v1 := keep_cell hX HV1.out
  have v2 := keep_cell hX HV2.out
  have d0 := keep_cell hX HQ0.out
  have d1 := keep_cell hX HQ1.out
  replace HX := hide (below_next HX.out hX)
  obtain ⟨a0, a1, a2⟩ := (HT.out.on HX.out).p
  clear hX HV0 HV1 HV2 HQ0 HQ1
  rcases HLAW.out with ⟨hj4, hji, hd4, hdr⟩ | ⟨hj4, hji, hdj⟩
  · have HDJ := hide hdr
    rw [← HN.out] at hji
    subst hj4
    have i1 : ¬ (ji : Int) < 0 := by omega
    have i2 : ¬ (n : Int) ≤ ji := by omega
    have i3 : ¬ dk = 4 := hd4
    clear hdr HLAW hd4
    have i4 : (dk == 4) = false := by simpa using i3
    have i5 : ¬ n ≤ ji := by omega
    go_wp2_with fail
    rw [show (Value.agg #[.slice oa n cap, .int .i64 p.els.kind, .int .i64 p.els.errno]) = polV p oa cap by rw [HN.out]; rfl]
    refine (HOW _ HX.out).mono ?_
    rintro e X9 ⟨⟨oc, cc, rfl, hI⟩, hX⟩
    obtain ⟨b, off, rfl⟩ := hI.some (by rw [← HN.out]; omega)
    have hcc1 := hI.le
    have hcc2 := hI.cap
    rw [← HN.out] at hcc1
    unfold maxLen at hcc2
    have HI := hide hI
    clear hI HOW a0 a1 a2
    have u2 := keep_cell hX v2
    have u0 := keep_cell hX d0
    have u1 := keep_cell hX d1
    have l6 : X6.heap.size < X9.heap.size := block_lt_of_cell u2
    replace HX := hide (below_next HX.out hX)
    clear hX v0 v1 v2 d0 d1
    unfold polV
    simp only
    rw [← HN.out]
    obtain ⟨m, rfl⟩ : ∃ m, n = ji + 1 + m := ⟨n - ji - 1, by omega⟩
    obtain ⟨c, rfl⟩ : ∃ c, cc = ji + 1 + c := ⟨cc - ji - 1, by omega⟩
    obtain ⟨k0, k1, k2, k3, k4, k5⟩ := (HT.out.on HX.out).k
    obtain ⟨w0, w1, w2, w3, w4, w5, w6, w7, w8, w9, w10, w11⟩ := (HT.out.on HX.out).v
    have l2 : w.heap.size + 2 < X9.heap.size := (HT.out.on HX.out).lt
    have l1 : w.heap.size + 1 < X9.heap.size := by omega
    have HQ := fun o => HD2.out ⟨p.rules.drop ji, p.els⟩ _ _ (X9.alloc o) ((HI.out.drop ji).on (box_below X9 o))
    rw [HDR.out ji, HDJ.out] at HQ
    unfold polV actV vsV vsC klV klC at HQ
    simp only [List.length_drop] at HQ
    rw [← HN.out] at HQ
    go_wp2_with fail
    refine (HQ _).mono ?_
    rintro e X10 ⟨rfl, hX⟩
    replace hX := below_next (box_below X9 _) hX
    have t0 := keep_cell hX u0
    have t1 := keep_cell hX u1
    have l7 : X7.heap.size < X10.heap.size := block_lt_of_cell t0
    have HX2 := hide (below_next HX.out hX)
    clear hX HQ
    go_wp2
    go_ret
    exact ⟨rfl, below_next HBW.out (below_next HX2.out (box_below _ _))⟩
  · obtain ⟨rfl, rfl⟩ : dk = jk ∧ de = je := by injection hdj with h1 h2; exact ⟨h1, h2⟩
    subst hji
    clear hdj HLAW
    go_wp2
    go_ret
    exact ⟨rfl, below_next HBW.out HX.out⟩
end Go.Proofs.YtbifjokfnahiaabGreatDoor
