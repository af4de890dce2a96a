/- The document's holds and Fits. -/
import Derived.Test.YtklibmijiecbfaaGreatK10
import Derived.Test.YtklibmijiecbfaaGreatK5
namespace Go.Proofs.YtklibmijiecbfaaGreat
open Go.RowKit Go.Sort

set_option maxHeartbeats 2000000 in
theorem rholds_any (c : CD) (hc : CdOk c) (x : Nat) (hx : x < 18446744073709551616) (w : World) : Calls Tryz.prog 116 #[condV c, .int .u64 x] w fun e w' => e = .returned (.bool (holdsN c x)) ∧ Below w.heap.size w w' := by
 obtain ⟨arg, op, v, m, g, ⟨ip, b, lo, hi⟩⟩ := c
 have hand : bits .and .u64 (x : Int) (m : Int) = ((x &&& m : Nat) : Int) := u64_and_nat x m hx hc.m
 clear hc
 obtain ⟨y, hy⟩ : ∃ y : Nat, y = x &&& m := ⟨_, rfl⟩
 rw [← hy] at hand
 have HY := hide hy
 clear hy
 unfold condV
 simp only
 go_enter Tryz.func116, Tryz.ntmps116
 go_wp2
 all_goals
  go_ret
  refine ⟨ret_bool ?_, box_below _ _⟩
 all_goals
  clear hand
  first
  | (simp_all [holdsN]; done)
  | (rw [Bool.eq_iff_iff]; simp_all [holdsN]; done)
  | (rw [Bool.eq_iff_iff]; simp_all [holdsN]; omega)
  | (have := HY.out; rw [Bool.eq_iff_iff]; simp_all [holdsN]; omega)

theorem numB_of {c : CD} (h : Shape c) : numB c = !decide (7 < c.op) := by
 cases h with
 | num a k v ha h1 h6 hv =>
  unfold numB kindOp
  simp only
  rw [if_neg (by omega), if_neg (by omega), show decide ((7 : Int) < k) = false by simp; omega]
  rfl
 | mask => rfl
 | like => rfl
 | net => rfl
theorem any_take_snoc {α : Type} {f : α → Bool} {l : List α} {i : Nat} {c : α} (h : l.take (i + 1) = l.take i ++ [c]) : (l.take (i + 1)).any f = ((l.take i).any f || f c) := by rw [h, List.any_append]; simp
theorem all_take_snoc' {α : Type} {f : α → Bool} {l : List α} {i : Nat} {c : α} (h : l.take (i + 1) = l.take i ++ [c]) : (l.take (i + 1)).all f = ((l.take i).all f && f c) := by rw [h, List.all_append]; simp

set_option maxHeartbeats 4000000 in
theorem rfits_any (r : RL) (h : RuleOk r) (oa : Option Addr) (cap : Nat) (k : KL) (hk : KlOk k) (w : World) (hc : IsConds oa r.conds w) :
  Calls Tryz.prog 93 #[ruleV r oa cap, klV k] w fun e w' => e = .returned (.tuple #[.bool (fitsB r k), .bool (deepB r)]) ∧ Below w.heap.size w w' := by
 obtain ⟨n, hn⟩ : ∃ n, n = r.conds.length := ⟨_, rfl⟩
 have HC := hide (conds_parts hc n hn)
 have h4 : n ≤ 4 := by have := h.few; omega
 have HSH := hide h.conds
 have HL := hide (show ∀ i, i < n → ∃ c, r.conds[i]? = some c ∧ r.conds.take (i + 1) = r.conds.take i ++ [c] from fun i h => take_next (by omega))
 obtain ⟨m, hm⟩ : ∃ m : Nat, r.nr = m := ⟨r.nr.toNat, by have := h.nr0; omega⟩
 have HZ := hide (show fitsB r k = (decide ((k.nr : Int) = r.nr) && r.conds.all (regB k)) from rfl)
 have HDZ := hide (show deepB r = r.conds.any (fun c => !numB c) from rfl)
 obtain ⟨z, hz⟩ : ∃ z, z = fitsB r k := ⟨_, rfl⟩
 obtain ⟨dz, hdz⟩ : ∃ z, z = deepB r := ⟨_, rfl⟩
 rw [← hz] at HZ ⊢
 rw [← hdz] at HDZ ⊢
 have hm8 : m ≤ 8 := by have := h.nr8; omega
 clear hc hz hdz h
 obtain ⟨nr, cs, ⟨ak, ae⟩⟩ := r
 unfold ruleV klV klC
 simp only at HC HL HZ HDZ HSH hn hm ⊢
 subst hm
 rw [← hn]
 have HN := hide hn
 clear hn
 obtain ⟨V, hV, hB, hx, hy⟩ := two_box w #[.int .i64 m, .slice oa n cap, .int .i64 ak, .int .i64 ae] (klC k) 41 52
 have HY := hide hy
 have k0 := hx 0
 have k1 := hx 1
 have kn := hy 1
 simp only [klC, List.getElem?_toArray, List.getElem?_cons_zero, List.getElem?_cons_succ] at k0 k1 kn
 clear hx hy
 unfold klC at hV
 have HREG := hide (regN_at k)
 have HKO := hide (fun i => regN_lt hk i)
 have hkn : k.nr < 4294967296 := hk.nr
 obtain ⟨kar, hkar⟩ : ∃ x, x = k.arch := ⟨_, rfl⟩
 obtain ⟨knr, hknr⟩ : ∃ x, x = k.nr := ⟨_, rfl⟩
 obtain ⟨kb0, hkb0⟩ : ∃ x, x = k.a0 := ⟨_, rfl⟩
 obtain ⟨kb1, hkb1⟩ : ∃ x, x = k.a1 := ⟨_, rfl⟩
 obtain ⟨kb2, hkb2⟩ : ∃ x, x = k.a2 := ⟨_, rfl⟩
 obtain ⟨kb3, hkb3⟩ : ∃ x, x = k.a3 := ⟨_, rfl⟩
 rw [← hkar, ← hknr, ← hkb0, ← hkb1, ← hkb2, ← hkb3] at hV ⊢
 rw [← hknr] at kn HZ hkn
 obtain ⟨f0, hf0⟩ : ∃ f, f = ((m : Int) == (knr : Int)) := ⟨_, rfl⟩
 have HF0 := hide (show decide ((knr : Int) = m) = f0 by rw [hf0, Bool.eq_iff_iff]; simp; omega)
 rw [HF0.out] at HZ
 replace hf0 := hf0.symm
 clear hkar hknr hkb0 hkb1 hkb2 hkb3 hk
 go_enter Tryz.func93, Tryz.ntmps93
 go_wp2
 rw [← hV]
 clear hV
 go_loopw [6, 7, 8] (fun F D I w' => ∃ (i : Nat) (f d : Bool), i ≤ n ∧ F = .bool f ∧ D = .bool d ∧ I = .int .i64 i ∧ Hid (f = (f0 && (cs.take i).all (regB k))) ∧ Hid (d = (cs.take i).any (fun c => !numB c)) ∧ Hid (Below V.heap.size V w')) (fun _ _ I _ => n - (intOf I).toNat)
 case atStart => exact ⟨0, f0, false, by omega, rfl, rfl, rfl, hide (by simp), hide (by simp), hide (Below.refl _ _)⟩
 case round =>
  obtain ⟨i, f, d, hi, rfl, rfl, rfl, HF, HD, HB⟩ := hrel
  have HW := hide (below_next hB HB.out)
  have g1 := keep_cell HB.out k1
  clear hf0
  by_cases hlt : i < n
  ·
   obtain ⟨c, hcs, hcat⟩ := HL.out i hlt
   obtain ⟨b, off, rfl, hbw, HA⟩ := HC.out (by omega)
   have hA := (HA.out i c hcs).on fun j => (bcell HW.out).1 b j hbw
   have hsh := HSH.out c (List.mem_of_getElem? hcs)
   have hnb := numB_of hsh
   have HQ := hide (all_take_snoc' (f := regB k) hcat)
   have HQD := hide (any_take_snoc (f := fun c => !numB c) hcat)
   have hok := hA.ok
   obtain ⟨a, haa, ha3⟩ := shape_arg hsh
   obtain ⟨x, hxx⟩ : ∃ x, x = regN k a := ⟨_, rfl⟩
   have hxl : x < 18446744073709551616 := by rw [hxx]; exact HKO.out a
   have kreg := (HY.out (2 + a)).trans (HREG.out a ha3)
   rw [← hxx] at kreg
   have HH := fun w => rholds_any c hok x hxl w
   have HRB := hide (show regB k c = (!numB c || holdsN c x) by unfold regB; rw [haa, Int.toNat_natCast, hxx])
   obtain ⟨hl, hhl⟩ : ∃ z, z = holdsN c x := ⟨_, rfl⟩
   rw [← hhl] at HH HRB
   rw [HRB.out] at HQ
   simp only [hnb] at HQ HQD
   obtain ⟨p0, p1, p2, p3, p4, p5, p6, p7, p8, _⟩ := hA
   clear hcs hcat hxx hxl hhl hok HRB hsh hnb
   obtain ⟨arg, op, v, mm, gl, ⟨ip, bb, lo, hh⟩⟩ := c
   unfold condV at HH
   simp only at p0 p1 p2 p3 p4 p5 p6 p7 p8 HH haa HQ HQD
   subst haa
   have i1 : (0 : Int) ≤ a := by omega
   have i2 : (a : Int) < 4 := by omega
   by_cases h7 : 7 < op
   ·
    have d7 : decide ((7 : Int) < op) = true := by simpa using h7
    rw [d7] at HQ HQD
    clear HH kreg
    go_wp2
    go_round
    case rel => exact ⟨i + 1, f, true, by omega, rfl, rfl, by go_num, hide (by rw [HQ.out, HF.out]; simp), hide (by rw [HQD.out]; simp), hide (below_next HB.out (box_below _ _))⟩
    case measure => simp [intOf]; omega
   ·
    have d7 : decide ((7 : Int) < op) = false := by simpa using h7
    rw [d7] at HQ HQD
    cases f with
    | false =>
     clear HH kreg
     go_wp2
     go_round
     case rel => exact ⟨i + 1, false, d, by omega, rfl, rfl, by go_num, hide (by rw [HQ.out, ← Bool.and_assoc, ← HF.out]; rfl), hide (by rw [HQD.out, HD.out]; simp), hide (below_next HB.out (box_below _ _))⟩
     case measure => simp [intOf]; omega
    | true =>
     go_wp2_with fail
     obtain ⟨W1, hW1, hW1b, _, hW1c⟩ := one_box wr #[.int .i64 a, .int .i64 op, .int .u64 v, .int .u64 mm, .string gl, .int .u32 ip, .int .i64 bb, .int .i64 lo, .int .i64 hh] 47
     rw [← hW1]
     clear hW1
     have g0 := cell_regrown (hW1c 0)
     have g1' := cell_regrown (hW1c 1)
     have g2 := cell_regrown (hW1c 2)
     have g3 := cell_regrown (hW1c 3)
     have g4 := cell_regrown (hW1c 4)
     have g5 := cell_regrown (hW1c 5)
     have g6 := cell_regrown (hW1c 6)
     have g7 := cell_regrown (hW1c 7)
     have g8 := cell_regrown (hW1c 8)
     have gr := cell_regrown (keep_cell (below_next HB.out hW1b) kreg)
     have cH : ∀ d os, Calls Tryz.prog 116 #[.agg #[.int .i64 a, .int .i64 op, .int .u64 v, .int .u64 mm, .string gl, .int .u32 ip, .int .i64 bb, .int .i64 lo, .int .i64 hh], .int .u64 x] (grow (redrawn W1 d) os) fun e w'' => e = .returned (.bool hl) ∧ ∃ p : Regrown, w'' = grow (redrawn W1 p.d) p.os := fun d os => Calls.regrown_of (HH _)
     clear hW1c p0 p1 p2 p3 p4 p5 p6 p7 p8 HH kreg
     refine wp_region_quiet_below (by kernel_rfl) (by kernel_rfl) ?_
     repeat (go_big_quiet_step ((go_at_call 116; exact cH _ _)))
     refine wpQuiet_nil ?_
     intro _ hw'
     obtain ⟨⟨dq, osq⟩, hw''⟩ := hw'
     subst hw''
     go_wp2
     go_round
     case rel => exact ⟨i + 1, hl, d, by omega, rfl, rfl, by go_num, hide (by rw [HQ.out, ← Bool.and_assoc, ← HF.out]; rfl), hide (by rw [HQD.out, HD.out]; simp), hide (below_next (below_next HB.out hW1b) (below_regrown _ _ _))⟩
     case measure => simp [intOf]; omega
  ·
   obtain rfl : i = n := by omega
   rw [List.take_of_length_le (by rw [HN.out]; exact Nat.le_refl _)] at HF HD
   have HZ2 := hide (show f = z by rw [HF.out, HZ.out])
   have HD2 := hide (show d = dz by rw [HD.out, HDZ.out])
   go_wp2
   go_ret2
   exact ⟨by rw [HZ2.out, HD2.out]; rfl, HW.out⟩
end Go.Proofs.YtklibmijiecbfaaGreat

/- The document's Judge. -/
namespace Go.Proofs.YtklibmijiecbfaaGreat
open Go.RowKit Go.Sort

set_option maxHeartbeats 2000000 in
set_option maxRecDepth 100000 in
theorem rjudge_any (p : POL) (hok : PolOk p) (oa : Option Addr) (cap : Nat) (k : KL) (hk : KlOk k) (w : World) (hp : IsPol oa cap p w) :
  Calls Tryz.prog 65 #[polV p oa cap, klV k] w fun e w' => e = .returned (verV (judgeR p k)) ∧ Below w.heap.size w w' := by
 obtain ⟨n, hn⟩ : ∃ n, n = p.rules.length := ⟨_, rfl⟩
 obtain ⟨V, hV, hB, hVs, hx, hy, hz⟩ := three_box w #[.slice oa p.rules.length cap, .int .i64 p.els.kind, .int .i64 p.els.errno] (klC k) #[.int .i64 0, .int .i64 0, .int .i64 0] 26 52 121
 have HC := hide (pol_parts hp n hn)
 have HRU := hide hok.rules
 have h12 : n ≤ 12 := by have := hok.few; omega
 have HFT := fun r hr oa cap X hc => rfits_any r hr oa cap k hk X hc
 clear hp hok hk
 unfold klC at hV hy
 obtain ⟨rs, ⟨ak, ae⟩⟩ := p
 have HL := hide (show ∀ i, i < n → ∃ c, rs[i]? = some c ∧ rs.drop i = c :: rs.drop (i + 1) from fun i h => drop_next (by simp only at hn; omega))
 unfold polV klV klC at *
 simp only at *
 rw [← hn] at hV hx ⊢
 have HN := hide hn
 clear hn
 obtain ⟨kar, kn, b0, b1, b2, b3⟩ := k
 simp only at *
 have x0 := hx 0
 have x1 := hx 1
 have x2 := hx 2
 have y0 := hy 0
 have y1 := hy 1
 have y2 := hy 2
 have y3 := hy 3
 have y4 := hy 4
 have y5 := hy 5
 simp only [List.getElem?_toArray, List.getElem?_cons_zero, List.getElem?_cons_succ] at x0 x1 x2 y0 y1 y2 y3 y4 y5
 clear hx hy
 by_cases ha : kar = 3221225534
 ·
  have HJ := hide (show judgeR ⟨rs, ⟨ak, ae⟩⟩ ⟨kar, kn, b0, b1, b2, b3⟩ = judgeFrom ⟨kar, kn, b0, b1, b2, b3⟩ ⟨ak, ae⟩ rs 0 from if_pos ha)
  have ha' : (kar : Int) = 3221225534 := by omega
  rw [ha'] at hV y0 ⊢
  have HKA := hide ha'
  clear ha ha'
  go_enter Tryz.func65, Tryz.ntmps65
  go_wp2
  rw [← hV]
  clear hV
  go_loopw [5] (fun I w' => ∃ i : Nat, i ≤ n ∧ I = .int .i64 i ∧ Hid (judgeFrom ⟨kar, kn, b0, b1, b2, b3⟩ ⟨ak, ae⟩ rs 0 = judgeFrom ⟨kar, kn, b0, b1, b2, b3⟩ ⟨ak, ae⟩ (rs.drop i) i) ∧ Hid (Below V.heap.size V w')) (fun I _ => n - (intOf I).toNat)
  case atStart => exact ⟨0, by omega, rfl, hide rfl, hide (Below.refl _ _)⟩
  case round =>
   obtain ⟨i, hi, rfl, HG, HB⟩ := hrel
   have HW := hide (below_next hB HB.out)
   have hsw : w.heap.size + 2 < V.heap.size := by omega
   have g0 := keep_cell HB.out x0
   by_cases hlt : i < n
   ·
    obtain ⟨c, hcs, hdr⟩ := HL.out i hlt
    obtain ⟨b, off, rfl, hbw, HA⟩ := HC.out (by omega)
    obtain ⟨ca, cc, hR0⟩ := HA.out i c hcs
    have hR := hR0.on hbw HW.out
    clear hR0
    have hro := HRU.out c (List.mem_of_getElem? hcs)
    have HF1 := HFT c hro ca cc
    have HIC := hide hR.conds
    have HG2 := hide (show judgeFrom ⟨kar, kn, b0, b1, b2, b3⟩ ⟨ak, ae⟩ rs 0 = if fitsB c ⟨kar, kn, b0, b1, b2, b3⟩ then (if deepB c then (⟨4, 0⟩, i) else (c.act, 0)) else judgeFrom ⟨kar, kn, b0, b1, b2, b3⟩ ⟨ak, ae⟩ (rs.drop (i + 1)) (i + 1) by rw [HG.out, hdr, judgeFrom])
    obtain ⟨fz, hfz⟩ : ∃ z, z = fitsB c ⟨kar, kn, b0, b1, b2, b3⟩ := ⟨_, rfl⟩
    obtain ⟨dz, hdz⟩ : ∃ z, z = deepB c := ⟨_, rfl⟩
    rw [← hfz, ← hdz] at HF1 HG2
    obtain ⟨p0, p1, p2, p3, _, _, _, _⟩ := hR
    clear hfz hdz hro hcs hdr HG
    obtain ⟨nr, cs, ⟨rk, re⟩⟩ := c
    unfold ruleV at HF1
    simp only at p0 p1 p2 p3 HF1 HG2 HIC
    simp only [HKA.out] at HF1
    have z0 := keep_cell HB.out y0
    have z1 := keep_cell HB.out y1
    have z2 := keep_cell HB.out y2
    have z3 := keep_cell HB.out y3
    have z4 := keep_cell HB.out y4
    have z5 := keep_cell HB.out y5
    have G0 := cell_regrown g0
    have P0 := cell_regrown p0
    have P1 := cell_regrown p1
    have P2 := cell_regrown p2
    have P3 := cell_regrown p3
    have Z0 := cell_regrown z0
    have Z1 := cell_regrown z1
    have Z2 := cell_regrown z2
    have Z3 := cell_regrown z3
    have Z4 := cell_regrown z4
    have Z5 := cell_regrown z5
    have cF : ∀ d os, Calls Tryz.prog 93 #[.agg #[.int .i64 nr, .slice ca cs.length cc, .int .i64 rk, .int .i64 re], .agg #[.int .u32 3221225534, .int .u32 kn, .int .u64 b0, .int .u64 b1, .int .u64 b2, .int .u64 b3]] (grow (redrawn wr d) os) fun e w'' => e = .returned (.tuple #[.bool fz, .bool dz]) ∧ ∃ p : Regrown, w'' = grow (redrawn wr p.d) p.os := fun d os => Calls.regrown_of (HF1 _ (HIC.out.on (below_regrown wr d os)))
    have i1 : (0 : Int) ≤ i := by omega
    go_wp2_with fail
    clear z0 z1 z2 z3 z4 z5
    refine wp_region_quiet_below (by kernel_rfl) (by kernel_rfl) ?_
    repeat (go_big_quiet_step ((go_at_call 93; exact cF _ _)))
    refine wpQuiet_nil ?_
    intro _ hw'
    obtain ⟨⟨dq, osq⟩, hw''⟩ := hw'
    subst hw''
    have HBQ := hide (below_next HB.out (below_regrown wr dq osq))
    have hr2 : (grow (redrawn wr dq) osq).heap[w.heap.size + 2]? = some (.cells #[.int .i64 0, .int .i64 0, .int .i64 0] 121 (0, 0)) := (HBQ.out.block _ hsw).trans hz
    have q2 := P2 dq osq
    have q3 := P3 dq osq
    have q0 := G0 dq osq
    clear G0 P0 P1 P2 P3 Z0 Z1 Z2 Z3 Z4 Z5 cF p0 p1 p2 p3 g0
    obtain ⟨Y, hY⟩ : ∃ Y, Y = grow (redrawn wr dq) osq := ⟨_, rfl⟩
    rw [← hY] at HBQ hr2 q2 q3 q0 ⊢
    clear hY
    have hbY := HBQ.out.size
    cases fz with
    | false =>
     rw [if_neg (by decide)] at HG2
     go_wp2
     go_round
     case rel => exact ⟨i + 1, by omega, by go_num, HG2, HBQ⟩
     case measure => simp [intOf]; omega
    | true =>
     rw [if_pos rfl] at HG2
     cases dz with
     | true =>
      rw [if_pos rfl] at HG2
      go_wp2_with (refine wpList_store_row rfl 121 _ _ rfl (w.heap.size + 2) (verC ⟨4, 0⟩ i) rfl rfl 121 _ hr2 size_ver rfl (verC_one _ _) ?_)
      refine bodyPost_ret (v := .agg (verC ⟨4, 0⟩ i)) (results_cell_row rfl _ _ (w.heap.size + 2) 121 (verC ⟨4, 0⟩ i) (0, 0) _ rfl (setRow_heap _ _ _ _ _ _ hr2) Tryz.underlying121 rfl size_ver) rfl ⟨?_, below_setRow (below_next hB HBQ.out) (by omega) _⟩
      rw [HJ.out, HG2.out]
      rfl
     | false =>
      rw [if_neg (by decide)] at HG2
      go_wp2_with (refine wpList_store_row rfl 121 _ _ rfl (w.heap.size + 2) (verC ⟨rk, re⟩ 0) rfl rfl 121 _ hr2 size_ver rfl (verC_one _ _) ?_)
      refine bodyPost_ret (v := .agg (verC ⟨rk, re⟩ 0)) (results_cell_row rfl _ _ (w.heap.size + 2) 121 (verC ⟨rk, re⟩ 0) (0, 0) _ rfl (setRow_heap _ _ _ _ _ _ hr2) Tryz.underlying121 rfl size_ver) rfl ⟨?_, below_setRow (below_next hB HBQ.out) (by omega) _⟩
      rw [HJ.out, HG2.out]
      rfl
   ·
    obtain rfl : i = n := by omega
    have HG2 := hide (show judgeFrom ⟨kar, kn, b0, b1, b2, b3⟩ ⟨ak, ae⟩ rs 0 = (⟨ak, ae⟩, 0) by
     rw [HG.out, List.drop_eq_nil_of_le (by rw [HN.out]; exact Nat.le_refl _), judgeFrom])
    have g1 := keep_cell HB.out x1
    have g2 := keep_cell HB.out x2
    have hr2 : wr.heap[w.heap.size + 2]? = some (.cells #[.int .i64 0, .int .i64 0, .int .i64 0] 121 (0, 0)) := (HB.out.block _ hsw).trans hz
    go_wp2_with (refine wpList_store_row rfl 121 _ _ rfl (w.heap.size + 2) (verC ⟨ak, ae⟩ 0) rfl rfl 121 _ hr2 size_ver rfl (verC_one _ _) ?_)
    refine bodyPost_ret (v := .agg (verC ⟨ak, ae⟩ 0)) (results_cell_row rfl _ _ (w.heap.size + 2) 121 (verC ⟨ak, ae⟩ 0) (0, 0) _ rfl (setRow_heap _ _ _ _ _ _ hr2) Tryz.underlying121 rfl size_ver) rfl ⟨?_, below_setRow HW.out (by omega) _⟩
    rw [HJ.out, HG2.out]
    rfl
 ·
  have HJ := hide (show judgeR ⟨rs, ⟨ak, ae⟩⟩ ⟨kar, kn, b0, b1, b2, b3⟩ = (⟨3, 0⟩, 0) from if_neg ha)
  have ha' : ¬ (kar : Int) = 3221225534 := by omega
  clear ha
  go_enter Tryz.func65, Tryz.ntmps65
  have hzz := hz
  rw [hV] at hzz
  go_wp2_with (refine wpList_store_row rfl 121 _ _ rfl (w.heap.size + 2) (verC ⟨3, 0⟩ 0) rfl rfl 121 _ hzz size_ver rfl (verC_one _ _) ?_)
  rw [hV] at hB
  refine bodyPost_ret (v := .agg (verC ⟨3, 0⟩ 0)) (results_cell_row rfl _ _ (w.heap.size + 2) 121 (verC ⟨3, 0⟩ 0) (0, 0) _ rfl (setRow_heap _ _ _ _ _ _ hzz) Tryz.underlying121 rfl size_ver) rfl ⟨?_, below_setRow hB (by omega) _⟩
  rw [HJ.out]
  rfl
end Go.Proofs.YtklibmijiecbfaaGreat

/- The walk of the document's class. -/
namespace Go.Proofs.YtklibmijiecbfaaGreat.Gl
open Go.RowKit

def rclassV (p : ByteArray) (t : Nat) : Int := match classR (p.extract t p.size) with
 | none => -1
 | some (_, n) => t + n
theorem rclassV_none {p : ByteArray} {t : Nat} (h : classR (p.extract t p.size) = none) : rclassV p t = -1 := by unfold rclassV; rw [h]
theorem rclassV_some {p : ByteArray} {t n : Nat} {f : Nat → Bool} (h : classR (p.extract t p.size) = some (f, n)) : rclassV p t = t + n := by unfold rclassV; rw [h]

theorem memberAt_extract (p : ByteArray) (t k : Nat) (ht : t ≤ p.size) (hk : t ≤ k) : memberAt (p.extract t p.size) (k - t) = memberN (p.size - k) (byteAt p k) (byteAt p (k + 1)) (byteAt p (k + 2)) := by
 unfold memberAt
 rw [size_extract, byteAt_extract p t _ ht, byteAt_extract p t _ ht, byteAt_extract p t _ ht, show t + (k - t) = k by omega, show t + (k - t + 1) = k + 1 by omega, show t + (k - t + 2) = k + 2 by omega, show p.size - t - (k - t) = p.size - k by omega]

theorem scan_member {p : ByteArray} {t k fu v : Nat} {f : Nat → Bool} (ht : t ≤ p.size) (hk : t ≤ k) (hlt : k < p.size) (hne : byteAt p k ≠ 93) (hm : memberN (p.size - k) (byteAt p k) (byteAt p (k + 1)) (byteAt p (k + 2)) = v) :
  (v = 0 → scan (fu + 1) (p.extract t p.size) (k - t) f = none) ∧ (v ≠ 0 → ∃ g, scan (fu + 1) (p.extract t p.size) (k - t) f = scan fu (p.extract t p.size) (k + v - t) g) := by
 have h1 : k - t < (p.extract t p.size).size ∧ byteAt (p.extract t p.size) (k - t) ≠ 93 := by
  rw [size_extract, byteAt_extract p t _ ht, show t + (k - t) = k by omega]
  exact ⟨by omega, hne⟩
 have h2 : memberAt (p.extract t p.size) (k - t) = v := (memberAt_extract p t k ht hk).trans hm
 constructor
 ·
  intro hv
  rw [scan, if_pos h1, h2, if_pos hv]
 ·
  intro hv
  rw [scan, if_pos h1, h2, if_neg hv, show k - t + v = k + v - t by omega]
  exact ⟨_, rfl⟩
theorem scan_stop {p : ByteArray} {t k fu : Nat} {f : Nat → Bool} (ht : t ≤ p.size) (hk : t ≤ k) (h : ¬ (k < p.size ∧ byteAt p k ≠ 93)) : scan (fu + 1) (p.extract t p.size) (k - t) f = some (k - t, f) := by
 rw [scan, if_neg]
 rw [size_extract, byteAt_extract p t _ ht, show t + (k - t) = k by omega]
 intro h'
 exact h ⟨by omega, h'.2⟩

set_option maxRecDepth 10000 in
set_option maxHeartbeats 1000000 in
theorem rclass_yes (p : ByteArray) (t : Nat) (_ht : t < p.size) (hz : p.size ≤ 1000) (hn : notB (p.extract t p.size) = true) (hlt1 : t + 1 < p.size) (b1 : ((byteAt p (t + 1) : Int) == 33) = true) (w : World) :
  Calls Tryz.prog 106 #[.string p, .int .i64 t] w fun e w' => e = .returned (.int .i64 (rclassV p t)) ∧ w' = w := by
 have hB : classBegin (p.extract t p.size) = 2 := by unfold classBegin; rw [hn]; rfl
 have hC : classR (p.extract t p.size) = classFin true 2 (p.size - t) (scan (p.size - t + 1) (p.extract t p.size) 2 fun _ => false) := by unfold classR; rw [hn, hB, size_extract]
 have HC := hide hC
 clear hC hB hn
 have e1 := byteAt_eq p (t + 1) hlt1
 have d0 : decide ((t : Int) + 1 < (p.size : Int)) = true := by simp; omega
 ·
  skip
  go_enter Tryz.func106, Tryz.ntmps106
  go_wp2_with fail
  go_loop [5, 6] (fun i c => ∃ (k : Nat) (f : Nat → Bool) (cnt fuel : Nat), t ≤ k ∧ k ≤ p.size ∧ i = .int .i64 k ∧ c = .int .i64 cnt ∧ cnt + t + 2 ≤ k ∧ (cnt = 0 ↔ k = t + 2) ∧ p.size - k < fuel ∧ scan fuel (p.extract t p.size) (k - t) f = scan (p.size - t + 1) (p.extract t p.size) 2 (fun _ => false)) (fun i _ => p.size - (intOf i).toNat)
  case atStart => exact ⟨t + 2, fun _ => false, 0, p.size - t + 1, by omega, by omega, by go_num, rfl, by omega, by simp, by omega, by rw [show t + 2 - t = 2 by omega]⟩
  case round =>
   obtain ⟨k, f, cnt, fuel, hk1, hk2, rfl, rfl, hcnt, hcz, hfuel, hsc⟩ := hrel
   obtain ⟨fu, rfl⟩ : ∃ fu, fuel = fu + 1 := ⟨fuel - 1, by omega⟩
   have Hsc := hide hsc
   have Hcz := hide hcz
   clear hsc hcz
   by_cases hgo : k < p.size ∧ byteAt p k ≠ 93
   ·
    obtain ⟨hlt, hne⟩ := hgo
    have ek := byteAt_eq p k hlt
    have bk : (((byteAt p k : Nat) : Int) != 93) = true := by rw [bne_iff_ne]; omega
    have dk : decide ((k : Int) < (p.size : Int)) = true := by simp; omega
    cases n0 : nameB (byteAt p k)
    ·
     have hm : memberN (p.size - k) (byteAt p k) (byteAt p (k + 1)) (byteAt p (k + 2)) = 0 := by unfold memberN; rw [if_neg (by rw [n0]; simp)]
     have HV := hide (rclassV_none (by rw [HC.out, ← Hsc.out, (scan_member (by omega) hk1 hlt hne hm).1 rfl]; rfl))
     clear HC Hsc hm
     go_wp2_with (go_at_call 123; refine (letter_any _ _).mono ?_; rintro e w' ⟨rfl, rfl⟩)
     go_ret
     exact ⟨ret_int (by rw [HV.out]), rfl⟩
    ·
     by_cases h1 : k + 1 < p.size
     ·
      have d1 : decide ((k : Int) + 1 < (p.size : Int)) = true := by simp; omega
      have e1 := byteAt_eq p (k + 1) h1
      by_cases h45 : byteAt p (k + 1) = 45
      ·
       have b45 : (((byteAt p (k + 1) : Nat) : Int) == 45) = true := by rw [beq_iff_eq]; omega
       by_cases h2 : k + 2 < p.size
       ·
        have b2 : ((k : Int) + 1 + 1 == (p.size : Int)) = false := by rw [beq_eq_false_iff_ne]; omega
        have b2' : ((k : Int) + 2 == (p.size : Int)) = false := by rw [beq_eq_false_iff_ne]; omega
        have e2 := byteAt_eq p (k + 2) h2
        cases n2 : nameB (byteAt p (k + 2))
        ·
         have hm : memberN (p.size - k) (byteAt p k) (byteAt p (k + 1)) (byteAt p (k + 2)) = 0 := by unfold memberN; rw [if_pos n0, if_neg (by omega), if_pos h45, if_neg (by omega), if_neg (by rw [n2]; simp)]
         clear h45
         have HV := hide (rclassV_none (by rw [HC.out, ← Hsc.out, (scan_member (by omega) hk1 hlt hne hm).1 rfl]; rfl))
         clear HC Hsc hm
         go_wp2_with (go_at_call 123; refine (letter_any _ _).mono ?_; rintro e w' ⟨rfl, rfl⟩)
         go_ret
         exact ⟨ret_int (by rw [HV.out]), rfl⟩
        ·
         by_cases hlo : byteAt p (k + 2) < byteAt p k
         ·
          have dl : decide ((byteAt p (k + 2) : Int) < (byteAt p k : Int)) = true := by simp; omega
          have hm : memberN (p.size - k) (byteAt p k) (byteAt p (k + 1)) (byteAt p (k + 2)) = 0 := by unfold memberN; rw [if_pos n0, if_neg (by omega), if_pos h45, if_neg (by omega), if_pos n2, if_pos hlo]
          clear h45
          have HV := hide (rclassV_none (by rw [HC.out, ← Hsc.out, (scan_member (by omega) hk1 hlt hne hm).1 rfl]; rfl))
          clear HC Hsc hm
          go_wp2_with (go_at_call 123; refine (letter_any _ _).mono ?_; rintro e w' ⟨rfl, rfl⟩)
          go_ret
          exact ⟨ret_int (by rw [HV.out]), rfl⟩
         ·
          have dl : decide ((byteAt p (k + 2) : Int) < (byteAt p k : Int)) = false := by simp; omega
          have hm : memberN (p.size - k) (byteAt p k) (byteAt p (k + 1)) (byteAt p (k + 2)) = 3 := by unfold memberN; rw [if_pos n0, if_neg (by omega), if_pos h45, if_neg (by omega), if_pos n2, if_neg hlo]
          clear h45
          obtain ⟨g, hg⟩ := (scan_member (fu := fu) (f := f) (by omega) hk1 hlt hne hm).2 (by omega)
          have HG := hide (hg.symm.trans Hsc.out)
          clear hg HC Hsc hm
          go_wp2_with (go_at_call 123; refine (letter_any _ _).mono ?_; rintro e w' ⟨rfl, rfl⟩)
          go_round
          case rel => exact ⟨k + 3, g, cnt + 1, fu, by omega, by omega, by go_num, by go_num, by omega, by omega, by omega, HG.out⟩
          case measure => simp [intOf]; omega
       ·
        have b2 : ((k : Int) + 1 + 1 == (p.size : Int)) = true := by rw [beq_iff_eq]; omega
        have b2' : ((k : Int) + 2 == (p.size : Int)) = true := by rw [beq_iff_eq]; omega
        have hm : memberN (p.size - k) (byteAt p k) (byteAt p (k + 1)) (byteAt p (k + 2)) = 0 := by unfold memberN; rw [if_pos n0, if_neg (by omega), if_pos h45, if_pos (by omega)]
        clear h45
        have HV := hide (rclassV_none (by rw [HC.out, ← Hsc.out, (scan_member (by omega) hk1 hlt hne hm).1 rfl]; rfl))
        clear HC Hsc hm
        go_wp2_with (go_at_call 123; refine (letter_any _ _).mono ?_; rintro e w' ⟨rfl, rfl⟩)
        go_ret
        exact ⟨ret_int (by rw [HV.out]), rfl⟩
      ·
       have b45 : (((byteAt p (k + 1) : Nat) : Int) == 45) = false := by rw [beq_eq_false_iff_ne]; omega
       have hm : memberN (p.size - k) (byteAt p k) (byteAt p (k + 1)) (byteAt p (k + 2)) = 1 := by unfold memberN; rw [if_pos n0, if_neg (by omega), if_neg h45]
       clear h45
       obtain ⟨g, hg⟩ := (scan_member (fu := fu) (f := f) (by omega) hk1 hlt hne hm).2 (by omega)
       have HG := hide (hg.symm.trans Hsc.out)
       clear hg HC Hsc hm
       go_wp2_with (go_at_call 123; refine (letter_any _ _).mono ?_; rintro e w' ⟨rfl, rfl⟩)
       go_round
       case rel => exact ⟨k + 1, g, cnt + 1, fu, by omega, by omega, by go_num, by go_num, by omega, by omega, by omega, HG.out⟩
       case measure => simp [intOf]; omega
     ·
      have d1 : decide ((k : Int) + 1 < (p.size : Int)) = false := by simp; omega
      have hm : memberN (p.size - k) (byteAt p k) (byteAt p (k + 1)) (byteAt p (k + 2)) = 1 := by unfold memberN; rw [if_pos n0, if_pos (by omega)]
      obtain ⟨g, hg⟩ := (scan_member (fu := fu) (f := f) (by omega) hk1 hlt hne hm).2 (by omega)
      have HG := hide (hg.symm.trans Hsc.out)
      clear hg HC Hsc hm
      go_wp2_with (go_at_call 123; refine (letter_any _ _).mono ?_; rintro e w' ⟨rfl, rfl⟩)
      go_round
      case rel => exact ⟨k + 1, g, cnt + 1, fu, by omega, by omega, by go_num, by go_num, by omega, by omega, by omega, HG.out⟩
      case measure => simp [intOf]; omega
   ·
    have hst := scan_stop (fu := fu) (f := f) (by omega) hk1 hgo
    have hR0 : classR (p.extract t p.size) = classFin true 2 (p.size - t) (some (k - t, f)) := by rw [HC.out, ← Hsc.out, hst]
    clear HC Hsc hst
    by_cases hend : k = p.size
    ·
     have HV := hide (rclassV_none (by rw [hR0]; simp [classFin, hend]))
     have dk : decide ((k : Int) < (p.size : Int)) = false := by simp; omega
     have be : ((k : Int) == (p.size : Int)) = true := by rw [beq_iff_eq]; omega
     clear hR0 hend hgo
     go_wp2_with fail
     go_ret
     exact ⟨ret_int (by rw [HV.out]), rfl⟩
    ·
     have hlt : k < p.size := by omega
     have h93 : byteAt p k = 93 := Decidable.byContradiction fun h => hgo ⟨hlt, h⟩
     have ek := byteAt_eq p k hlt
     have bk : (((byteAt p k : Nat) : Int) != 93) = false := by rw [bne_eq_false_iff_eq]; omega
     have dk : decide ((k : Int) < (p.size : Int)) = true := by simp; omega
     have be : ((k : Int) == (p.size : Int)) = false := by rw [beq_eq_false_iff_ne]; omega
     clear hgo h93
     by_cases hb : cnt = 0
     ·
      have hkb := Hcz.out.1 hb
      have HV := hide (rclassV_none (by rw [hR0]; simp [classFin, hkb]))
      have bc : ((cnt : Int) == 0) = true := by rw [beq_iff_eq]; omega
      clear hR0 hb hend hkb
      go_wp2_with fail
      go_ret
      exact ⟨ret_int (by rw [HV.out]), rfl⟩
     ·
      have hkb : ¬ k = t + 2 := fun h => hb (Hcz.out.2 h)
      have HV := hide (rclassV_some (p := p) (t := t) (n := k - t + 1) (f := upd (if true = true then fun i => !f i else f) 47 false) (by rw [hR0]; simp only [classFin]; rw [if_neg (by omega)]))
      have bc : ((cnt : Int) == 0) = false := by rw [beq_eq_false_iff_ne]; omega
      clear hR0 hb hend hkb
      go_wp2_with fail
      go_ret
      exact ⟨ret_int (by rw [HV.out]; omega), rfl⟩

set_option maxRecDepth 10000 in
set_option maxHeartbeats 1000000 in
theorem rclass_no (p : ByteArray) (t : Nat) (_ht : t < p.size) (hz : p.size ≤ 1000) (hn : notB (p.extract t p.size) = false) (hlt1 : t + 1 < p.size) (b1 : ((byteAt p (t + 1) : Int) == 33) = false) (w : World) :
  Calls Tryz.prog 106 #[.string p, .int .i64 t] w fun e w' => e = .returned (.int .i64 (rclassV p t)) ∧ w' = w := by
 have hB : classBegin (p.extract t p.size) = 1 := by unfold classBegin; rw [hn]; rfl
 have hC : classR (p.extract t p.size) = classFin false 1 (p.size - t) (scan (p.size - t + 1) (p.extract t p.size) 1 fun _ => false) := by unfold classR; rw [hn, hB, size_extract]
 have HC := hide hC
 clear hC hB hn
 have e1 := byteAt_eq p (t + 1) hlt1
 have d0 : decide ((t : Int) + 1 < (p.size : Int)) = true := by simp; omega
 ·
  skip
  go_enter Tryz.func106, Tryz.ntmps106
  go_wp2_with fail
  go_loop [5, 6] (fun i c => ∃ (k : Nat) (f : Nat → Bool) (cnt fuel : Nat), t ≤ k ∧ k ≤ p.size ∧ i = .int .i64 k ∧ c = .int .i64 cnt ∧ cnt + t + 1 ≤ k ∧ (cnt = 0 ↔ k = t + 1) ∧ p.size - k < fuel ∧ scan fuel (p.extract t p.size) (k - t) f = scan (p.size - t + 1) (p.extract t p.size) 1 (fun _ => false)) (fun i _ => p.size - (intOf i).toNat)
  case atStart => exact ⟨t + 1, fun _ => false, 0, p.size - t + 1, by omega, by omega, by go_num, rfl, by omega, by simp, by omega, by rw [show t + 1 - t = 1 by omega]⟩
  case round =>
   obtain ⟨k, f, cnt, fuel, hk1, hk2, rfl, rfl, hcnt, hcz, hfuel, hsc⟩ := hrel
   obtain ⟨fu, rfl⟩ : ∃ fu, fuel = fu + 1 := ⟨fuel - 1, by omega⟩
   have Hsc := hide hsc
   have Hcz := hide hcz
   clear hsc hcz
   by_cases hgo : k < p.size ∧ byteAt p k ≠ 93
   ·
    obtain ⟨hlt, hne⟩ := hgo
    have ek := byteAt_eq p k hlt
    have bk : (((byteAt p k : Nat) : Int) != 93) = true := by rw [bne_iff_ne]; omega
    have dk : decide ((k : Int) < (p.size : Int)) = true := by simp; omega
    cases n0 : nameB (byteAt p k)
    ·
     have hm : memberN (p.size - k) (byteAt p k) (byteAt p (k + 1)) (byteAt p (k + 2)) = 0 := by unfold memberN; rw [if_neg (by rw [n0]; simp)]
     have HV := hide (rclassV_none (by rw [HC.out, ← Hsc.out, (scan_member (by omega) hk1 hlt hne hm).1 rfl]; rfl))
     clear HC Hsc hm
     go_wp2_with (go_at_call 123; refine (letter_any _ _).mono ?_; rintro e w' ⟨rfl, rfl⟩)
     go_ret
     exact ⟨ret_int (by rw [HV.out]), rfl⟩
    ·
     by_cases h1 : k + 1 < p.size
     ·
      have d1 : decide ((k : Int) + 1 < (p.size : Int)) = true := by simp; omega
      have e1 := byteAt_eq p (k + 1) h1
      by_cases h45 : byteAt p (k + 1) = 45
      ·
       have b45 : (((byteAt p (k + 1) : Nat) : Int) == 45) = true := by rw [beq_iff_eq]; omega
       by_cases h2 : k + 2 < p.size
       ·
        have b2 : ((k : Int) + 1 + 1 == (p.size : Int)) = false := by rw [beq_eq_false_iff_ne]; omega
        have b2' : ((k : Int) + 2 == (p.size : Int)) = false := by rw [beq_eq_false_iff_ne]; omega
        have e2 := byteAt_eq p (k + 2) h2
        cases n2 : nameB (byteAt p (k + 2))
        ·
         have hm : memberN (p.size - k) (byteAt p k) (byteAt p (k + 1)) (byteAt p (k + 2)) = 0 := by unfold memberN; rw [if_pos n0, if_neg (by omega), if_pos h45, if_neg (by omega), if_neg (by rw [n2]; simp)]
         clear h45
         have HV := hide (rclassV_none (by rw [HC.out, ← Hsc.out, (scan_member (by omega) hk1 hlt hne hm).1 rfl]; rfl))
         clear HC Hsc hm
         go_wp2_with (go_at_call 123; refine (letter_any _ _).mono ?_; rintro e w' ⟨rfl, rfl⟩)
         go_ret
         exact ⟨ret_int (by rw [HV.out]), rfl⟩
        ·
         by_cases hlo : byteAt p (k + 2) < byteAt p k
         ·
          have dl : decide ((byteAt p (k + 2) : Int) < (byteAt p k : Int)) = true := by simp; omega
          have hm : memberN (p.size - k) (byteAt p k) (byteAt p (k + 1)) (byteAt p (k + 2)) = 0 := by unfold memberN; rw [if_pos n0, if_neg (by omega), if_pos h45, if_neg (by omega), if_pos n2, if_pos hlo]
          clear h45
          have HV := hide (rclassV_none (by rw [HC.out, ← Hsc.out, (scan_member (by omega) hk1 hlt hne hm).1 rfl]; rfl))
          clear HC Hsc hm
          go_wp2_with (go_at_call 123; refine (letter_any _ _).mono ?_; rintro e w' ⟨rfl, rfl⟩)
          go_ret
          exact ⟨ret_int (by rw [HV.out]), rfl⟩
         ·
          have dl : decide ((byteAt p (k + 2) : Int) < (byteAt p k : Int)) = false := by simp; omega
          have hm : memberN (p.size - k) (byteAt p k) (byteAt p (k + 1)) (byteAt p (k + 2)) = 3 := by unfold memberN; rw [if_pos n0, if_neg (by omega), if_pos h45, if_neg (by omega), if_pos n2, if_neg hlo]
          clear h45
          obtain ⟨g, hg⟩ := (scan_member (fu := fu) (f := f) (by omega) hk1 hlt hne hm).2 (by omega)
          have HG := hide (hg.symm.trans Hsc.out)
          clear hg HC Hsc hm
          go_wp2_with (go_at_call 123; refine (letter_any _ _).mono ?_; rintro e w' ⟨rfl, rfl⟩)
          go_round
          case rel => exact ⟨k + 3, g, cnt + 1, fu, by omega, by omega, by go_num, by go_num, by omega, by omega, by omega, HG.out⟩
          case measure => simp [intOf]; omega
       ·
        have b2 : ((k : Int) + 1 + 1 == (p.size : Int)) = true := by rw [beq_iff_eq]; omega
        have b2' : ((k : Int) + 2 == (p.size : Int)) = true := by rw [beq_iff_eq]; omega
        have hm : memberN (p.size - k) (byteAt p k) (byteAt p (k + 1)) (byteAt p (k + 2)) = 0 := by unfold memberN; rw [if_pos n0, if_neg (by omega), if_pos h45, if_pos (by omega)]
        clear h45
        have HV := hide (rclassV_none (by rw [HC.out, ← Hsc.out, (scan_member (by omega) hk1 hlt hne hm).1 rfl]; rfl))
        clear HC Hsc hm
        go_wp2_with (go_at_call 123; refine (letter_any _ _).mono ?_; rintro e w' ⟨rfl, rfl⟩)
        go_ret
        exact ⟨ret_int (by rw [HV.out]), rfl⟩
      ·
       have b45 : (((byteAt p (k + 1) : Nat) : Int) == 45) = false := by rw [beq_eq_false_iff_ne]; omega
       have hm : memberN (p.size - k) (byteAt p k) (byteAt p (k + 1)) (byteAt p (k + 2)) = 1 := by unfold memberN; rw [if_pos n0, if_neg (by omega), if_neg h45]
       clear h45
       obtain ⟨g, hg⟩ := (scan_member (fu := fu) (f := f) (by omega) hk1 hlt hne hm).2 (by omega)
       have HG := hide (hg.symm.trans Hsc.out)
       clear hg HC Hsc hm
       go_wp2_with (go_at_call 123; refine (letter_any _ _).mono ?_; rintro e w' ⟨rfl, rfl⟩)
       go_round
       case rel => exact ⟨k + 1, g, cnt + 1, fu, by omega, by omega, by go_num, by go_num, by omega, by omega, by omega, HG.out⟩
       case measure => simp [intOf]; omega
     ·
      have d1 : decide ((k : Int) + 1 < (p.size : Int)) = false := by simp; omega
      have hm : memberN (p.size - k) (byteAt p k) (byteAt p (k + 1)) (byteAt p (k + 2)) = 1 := by unfold memberN; rw [if_pos n0, if_pos (by omega)]
      obtain ⟨g, hg⟩ := (scan_member (fu := fu) (f := f) (by omega) hk1 hlt hne hm).2 (by omega)
      have HG := hide (hg.symm.trans Hsc.out)
      clear hg HC Hsc hm
      go_wp2_with (go_at_call 123; refine (letter_any _ _).mono ?_; rintro e w' ⟨rfl, rfl⟩)
      go_round
      case rel => exact ⟨k + 1, g, cnt + 1, fu, by omega, by omega, by go_num, by go_num, by omega, by omega, by omega, HG.out⟩
      case measure => simp [intOf]; omega
   ·
    have hst := scan_stop (fu := fu) (f := f) (by omega) hk1 hgo
    have hR0 : classR (p.extract t p.size) = classFin false 1 (p.size - t) (some (k - t, f)) := by rw [HC.out, ← Hsc.out, hst]
    clear HC Hsc hst
    by_cases hend : k = p.size
    ·
     have HV := hide (rclassV_none (by rw [hR0]; simp [classFin, hend]))
     have dk : decide ((k : Int) < (p.size : Int)) = false := by simp; omega
     have be : ((k : Int) == (p.size : Int)) = true := by rw [beq_iff_eq]; omega
     clear hR0 hend hgo
     go_wp2_with fail
     go_ret
     exact ⟨ret_int (by rw [HV.out]), rfl⟩
    ·
     have hlt : k < p.size := by omega
     have h93 : byteAt p k = 93 := Decidable.byContradiction fun h => hgo ⟨hlt, h⟩
     have ek := byteAt_eq p k hlt
     have bk : (((byteAt p k : Nat) : Int) != 93) = false := by rw [bne_eq_false_iff_eq]; omega
     have dk : decide ((k : Int) < (p.size : Int)) = true := by simp; omega
     have be : ((k : Int) == (p.size : Int)) = false := by rw [beq_eq_false_iff_ne]; omega
     clear hgo h93
     by_cases hb : cnt = 0
     ·
      have hkb := Hcz.out.1 hb
      have HV := hide (rclassV_none (by rw [hR0]; simp [classFin, hkb]))
      have bc : ((cnt : Int) == 0) = true := by rw [beq_iff_eq]; omega
      clear hR0 hb hend hkb
      go_wp2_with fail
      go_ret
      exact ⟨ret_int (by rw [HV.out]), rfl⟩
     ·
      have hkb : ¬ k = t + 1 := fun h => hb (Hcz.out.2 h)
      have HV := hide (rclassV_some (p := p) (t := t) (n := k - t + 1) (f := upd (if false = true then fun i => !f i else f) 47 false) (by rw [hR0]; simp only [classFin]; rw [if_neg (by omega)]))
      have bc : ((cnt : Int) == 0) = false := by rw [beq_eq_false_iff_ne]; omega
      clear hR0 hb hend hkb
      go_wp2_with fail
      go_ret
      exact ⟨ret_int (by rw [HV.out]; omega), rfl⟩

set_option maxRecDepth 10000 in
set_option maxHeartbeats 1000000 in
theorem rclass_end (p : ByteArray) (t : Nat) (_ht : t < p.size) (hz : p.size ≤ 1000) (hn : notB (p.extract t p.size) = false) (hlt1 : ¬ t + 1 < p.size) (w : World) :
  Calls Tryz.prog 106 #[.string p, .int .i64 t] w fun e w' => e = .returned (.int .i64 (rclassV p t)) ∧ w' = w := by
 have hB : classBegin (p.extract t p.size) = 1 := by unfold classBegin; rw [hn]; rfl
 have hC : classR (p.extract t p.size) = classFin false 1 (p.size - t) (scan (p.size - t + 1) (p.extract t p.size) 1 fun _ => false) := by unfold classR; rw [hn, hB, size_extract]
 have HC := hide hC
 clear hC hB hn
 have d0 : decide ((t : Int) + 1 < (p.size : Int)) = false := by simp; omega
 ·
  skip
  go_enter Tryz.func106, Tryz.ntmps106
  go_wp2_with fail
  go_loop [5, 6] (fun i c => ∃ (k : Nat) (f : Nat → Bool) (cnt fuel : Nat), t ≤ k ∧ k ≤ p.size ∧ i = .int .i64 k ∧ c = .int .i64 cnt ∧ cnt + t + 1 ≤ k ∧ (cnt = 0 ↔ k = t + 1) ∧ p.size - k < fuel ∧ scan fuel (p.extract t p.size) (k - t) f = scan (p.size - t + 1) (p.extract t p.size) 1 (fun _ => false)) (fun i _ => p.size - (intOf i).toNat)
  case atStart => exact ⟨t + 1, fun _ => false, 0, p.size - t + 1, by omega, by omega, by go_num, rfl, by omega, by simp, by omega, by rw [show t + 1 - t = 1 by omega]⟩
  case round =>
   obtain ⟨k, f, cnt, fuel, hk1, hk2, rfl, rfl, hcnt, hcz, hfuel, hsc⟩ := hrel
   obtain ⟨fu, rfl⟩ : ∃ fu, fuel = fu + 1 := ⟨fuel - 1, by omega⟩
   have Hsc := hide hsc
   have Hcz := hide hcz
   clear hsc hcz
   by_cases hgo : k < p.size ∧ byteAt p k ≠ 93
   ·
    exfalso; omega
   ·
    have hst := scan_stop (fu := fu) (f := f) (by omega) hk1 hgo
    have hR0 : classR (p.extract t p.size) = classFin false 1 (p.size - t) (some (k - t, f)) := by rw [HC.out, ← Hsc.out, hst]
    clear HC Hsc hst
    by_cases hend : k = p.size
    ·
     have HV := hide (rclassV_none (by rw [hR0]; simp [classFin, hend]))
     have dk : decide ((k : Int) < (p.size : Int)) = false := by simp; omega
     have be : ((k : Int) == (p.size : Int)) = true := by rw [beq_iff_eq]; omega
     clear hR0 hend hgo
     go_wp2_with fail
     go_ret
     exact ⟨ret_int (by rw [HV.out]), rfl⟩
    ·
     have hlt : k < p.size := by omega
     have h93 : byteAt p k = 93 := Decidable.byContradiction fun h => hgo ⟨hlt, h⟩
     have ek := byteAt_eq p k hlt
     have bk : (((byteAt p k : Nat) : Int) != 93) = false := by rw [bne_eq_false_iff_eq]; omega
     have dk : decide ((k : Int) < (p.size : Int)) = true := by simp; omega
     have be : ((k : Int) == (p.size : Int)) = false := by rw [beq_eq_false_iff_ne]; omega
     clear hgo h93
     by_cases hb : cnt = 0
     ·
      have hkb := Hcz.out.1 hb
      have HV := hide (rclassV_none (by rw [hR0]; simp [classFin, hkb]))
      have bc : ((cnt : Int) == 0) = true := by rw [beq_iff_eq]; omega
      clear hR0 hb hend hkb
      go_wp2_with fail
      go_ret
      exact ⟨ret_int (by rw [HV.out]), rfl⟩
     ·
      have hkb : ¬ k = t + 1 := fun h => hb (Hcz.out.2 h)
      have HV := hide (rclassV_some (p := p) (t := t) (n := k - t + 1) (f := upd (if false = true then fun i => !f i else f) 47 false) (by rw [hR0]; simp only [classFin]; rw [if_neg (by omega)]))
      have bc : ((cnt : Int) == 0) = false := by rw [beq_eq_false_iff_ne]; omega
      clear hR0 hb hend hkb
      go_wp2_with fail
      go_ret
      exact ⟨ret_int (by rw [HV.out]; omega), rfl⟩

theorem rclass_any (p : ByteArray) (t : Nat) (ht : t < p.size) (hz : p.size ≤ 1000) (w : World) :
  Calls Tryz.prog 106 #[.string p, .int .i64 t] w fun e w' => e = .returned (.int .i64 (rclassV p t)) ∧ w' = w := by
 have h : notB (p.extract t p.size) = (decide (1 < p.size - t) && byteAt p (t + 1) == 33) := by unfold notB; rw [size_extract, byteAt_extract p t 1 (by omega)]
 cases hn : notB (p.extract t p.size)
 ·
  by_cases hlt : t + 1 < p.size
  ·
   rw [hn] at h
   refine rclass_no p t ht hz hn hlt ?_ w
   rw [beq_eq_false_iff_ne]
   intro h33
   rw [show byteAt p (t + 1) = 33 by omega] at h
   simp at h
   omega
  ·
   exact rclass_end p t ht hz hn hlt w
 ·
  rw [hn] at h
  have h' := h.symm
  simp at h'
  exact rclass_yes p t ht hz hn (by omega) (by rw [beq_iff_eq]; omega) w
end Go.Proofs.YtklibmijiecbfaaGreat.Gl
