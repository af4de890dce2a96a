/- warded: an act of both wards. -/
import Derived.Test.YtklibmijiecbfaaGreatK39
import Derived.Test.YtklibmijiecbfaaGreatK40
import Derived.Test.YtklibmijiecbfaaGreatK36
namespace Go.Proofs.YtklibmijiecbfaaGreat
open Go.RowKit Mm

structure BB (p : POL) (V : World) (g gm : Nat) (P : PV) (lv : Value) (s : WS) (K : Nat) (gd : Nat) (Q : PV) (sv : Nat → Value) (ld : Value) (d : DWS) (r : Nat) (c : Array Value) (X : World) : Prop where
 b : BW p V g gm P lv s K gd Q sv ld d X
 box : X.heap[r]? = some (.cells c 54 (0, 0))
 nc : ¬ InC g gm lv r
 nd : ¬ InD gd sv ld r
theorem BB.start {p : POL} {V : World} {g gm : Nat} {P : PV} {lv : Value} {s : WS} {K : Nat} {gd : Nat} {Q : PV} {sv : Nat → Value} {ld : Value} {d : DWS} {X : World} (h : BW p V g gm P lv s K gd Q sv ld d X) (c : Array Value) : BB p V g gm P lv s K gd Q sv ld d X.heap.size c (X.alloc (.cells c 54)) :=
 ⟨h.on (box_below _ _), heap_alloc_new _ _, fun e => by have := h.w.inlt e; omega, fun e => by have := h.dx.inlt e; omega⟩
theorem BB.on {p : POL} {V : World} {g gm : Nat} {P : PV} {lv : Value} {s : WS} {K : Nat} {gd : Nat} {Q : PV} {sv : Nat → Value} {ld : Value} {d : DWS} {r : Nat} {c : Array Value} {X Y : World} (h : BB p V g gm P lv s K gd Q sv ld d r c X) (hb : Below X.heap.size X Y) : BB p V g gm P lv s K gd Q sv ld d r c Y :=
 ⟨h.b.on hb, (hb.block _ (Array.getElem?_eq_some_iff.1 h.box).1).trans h.box, h.nc, h.nd⟩
theorem BB.code {p : POL} {V : World} {g gm : Nat} {P : PV} {lv : Value} {s : WS} {K : Nat} {gd : Nat} {Q : PV} {sv : Nat → Value} {ld : Value} {d : DWS} {r : Nat} {c : Array Value} {lv' : Value} {s' : WS} {K' : Nat} {X Y : World} (h : BB p V g gm P lv s K gd Q sv ld d r c X) (hw : WX g gm P s' lv' Y) (hf : Fr g gm lv lv' X Y) (hi : Inv p s') (hl : s'.log.length ≤ K') : BB p V g gm P lv' s' K' gd Q sv ld d r c Y := by
 have hr := (Array.getElem?_eq_some_iff.1 h.box).1
 refine ⟨h.b.code hw hf hi hl, (hf.tch.block r hr h.nc).trans h.box, fun e => ?_, h.nd⟩
 rcases e with e | e | e
 ·
  exact h.nc (.inl e)
 ·
  exact h.nc (.inr (.inl e))
 ·
  rcases hf.new r e with h1 | h1
  ·
   exact h.nc (.inr (.inr h1))
  ·
   omega
theorem BB.doc {p : POL} {V : World} {g gm : Nat} {P : PV} {lv : Value} {s : WS} {K : Nat} {gd : Nat} {Q : PV} {sv : Nat → Value} {ld : Value} {d : DWS} {r : Nat} {c : Array Value} {sv' : Nat → Value} {ld' : Value} {d' : DWS} {X Y : World} (h : BB p V g gm P lv s K gd Q sv ld d r c X) (hx : DX gd Q d' sv' ld' Y) (hf : DFr gd sv ld sv' ld' X Y) : BB p V g gm P lv s K gd Q sv' ld' d' r c Y := by
 have hr := (Array.getElem?_eq_some_iff.1 h.box).1
 refine ⟨h.b.doc hx hf, (hf.tch.block r hr h.nd).trans h.box, h.nc, fun e => ?_⟩
 rcases e with e | e | ⟨n, h3, e⟩
 ·
  exact h.nd (.inl e)
 ·
  rcases hf.newl r e with h1 | h1
  ·
   exact h.nd (.inr (.inl h1))
  ·
   omega
 ·
  rcases hf.news n h3 r e with h1 | h1
  ·
   exact h.nd (.inr (.inr ⟨n, h3, h1⟩))
  ·
   omega
theorem BB.cell {p : POL} {V : World} {g gm : Nat} {P : PV} {lv : Value} {s : WS} {K : Nat} {gd : Nat} {Q : PV} {sv : Nat → Value} {ld : Value} {d : DWS} {r : Nat} {c : Array Value} {X : World} (h : BB p V g gm P lv s K gd Q sv ld d r c X) (j : Nat) {v : Value} (hv : c[j]? = some v) : X.cell? ⟨r, j, none⟩ = some v := by
 rw [cell_of_row _ _ j _ _ _ h.box]
 exact hv
def WPost (p : POL) (V : World) (g gm : Nat) (P : PV) (K : Nat) (gd : Nat) (Q : PV) (e : Ending) (w' : World) : Prop := e = .returned (.bool true) ∧ ∃ lv' s' sv' ld' d', BW p V g gm P lv' s' (K + 90) gd Q sv' ld' d' w' ∧ TieW s' d'
set_option maxHeartbeats 4000000 in
set_option maxRecDepth 20000 in
theorem warded_any {p : POL} {V : World} {g gm : Nat} {P : PV} {lv : Value} {s : WS} {K : Nat} {gd : Nat} {Q : PV} {sv : Nat → Value} {ld : Value} {d : DWS} {X : World} (h : BW p V g gm P lv s K gd Q sv ld d X) (ht : TieW s d) (hp : polF p = 0) (hq : PolOk p) (hK : K ≤ 900000) (x : AC) (hc : x.callOk) (hxa : x.a < 18446744073709551616) (hxs : x.s.size ≤ 200) :
  Calls Tryz.prog 16 #[.pointer (some ⟨g, 0, none⟩), .pointer (some ⟨gd, 0, none⟩), .agg (acC x)] X (WPost p V g gm P K gd Q) := by
 have hkl := kcall_ok hc
 rw [acC_kl hc]
 obtain ⟨k, hk⟩ : ∃ k, k = kcall x := ⟨_, rfl⟩
 rw [← hk] at hkl
 rw [← hk]
 clear hk hc
 obtain ⟨kd, xn, xa, xs, xw, y0, y1, y2, y3, y4, y5⟩ := x
 unfold acA
 simp only at hxa hxs ⊢
 obtain ⟨r, hr⟩ : ∃ r, r = X.heap.size := ⟨_, rfl⟩
 obtain ⟨V0, hV0⟩ : ∃ V0, V0 = X.alloc (.cells #[.string kd, .int .i64 xn, .int .u64 xa, .string xs, .bool xw, .int .u32 k.arch, .int .u32 k.nr, .int .u64 k.a0, .int .u64 k.a1, .int .u64 k.a2, .int .u64 k.a3] 54) := ⟨_, rfl⟩
 have hB0 : BB p V g gm P lv s K gd Q sv ld d r #[.string kd, .int .i64 xn, .int .u64 xa, .string xs, .bool xw, .int .u32 k.arch, .int .u32 k.nr, .int .u64 k.a0, .int .u64 k.a1, .int .u64 k.a2, .int .u64 k.a3] V0 := by rw [hV0, hr]; exact BB.start h _
 have c0 : V0.cell? ⟨r, 0, none⟩ = some (.string kd) := hB0.cell 0 rfl
 have HB0 := hide hB0
 have HBD := hide (hB0.on (Below.refl _ _).drew)
 have HT := hide ht
 have HI := hide h.inv
 have HL := hide h.log
 have HKL := hide hkl
 have HV0 := hide hV0
 have HR0 := hide hr
 obtain rfl : P.p = p := h.pp
 have HQP := hide h.qp
 have hm : d.mem = s.mem := ht.mem
 clear h ht hV0 hr hkl hB0
 cases hk1 : (kd.toList == [109, 97, 112]) with
 | true => as_aux_lemma =>
  obtain ⟨⟨m1, f⟩, hmf⟩ : ∃ r, r = mapW xn xw s.mem := ⟨_, rfl⟩
  have HINV := hide (show Inv P.p { s with mem := m1 } by have := mem_inv HI.out (mapW_high xn xw s.mem).1 (mapW_high xn xw s.mem).2; rw [← hmf] at this; exact this)
  have HM := fun Y (h : WX g gm P s lv Y) => wmap_any xn xw h
  have HR := fun Y (h : Vr.IsD (LD gd Q d.T sv ld) d.mem Y) => (show Calls Tryz.prog 32 #[.pointer (some ⟨gd, 3, none⟩), .int .i64 xn, .bool xw] Y fun e w' => e = .returned (.int .i64 ((mapW xn xw d.mem).2 : Nat)) ∧ Vr.IsD (LD gd Q d.T sv ld) (mapW xn xw d.mem).1 w' ∧ Y.grownBy w' (some gd) from Vr.dmap_any h xn xw)
  unfold GoesM at HM
  rw [hm] at HR
  rw [← hmf] at HM HR
  simp only at HM HR
  clear hmf hm
  have a1 : V0.drew.cell? ⟨r, 1, none⟩ = some (.int .i64 xn) := HBD.out.cell 1 rfl
  have a4 : V0.drew.cell? ⟨r, 4, none⟩ = some (.bool xw) := HBD.out.cell 4 rfl
  go_enter Tryz.func16, Tryz.ntmps16
  go_wp2_with fail
  rw [← HV0.out, ← HR0.out]
  clear HV0 HR0 c0
  go_region_held3 (fun w' => w'.cell? ⟨r, 1, none⟩ = some (.int .i64 xn) ∧ w'.cell? ⟨r, 4, none⟩ = some (.bool xw))
   (first | (with_reducible exact ⟨a1, a4⟩) | (with_reducible exact ⟨s1, s4⟩) | (with_reducible exact ⟨u1, u4⟩) | go_keep)
   ((first
    | (go_at_call 13; refine (HM V0.drew HBD.out.b.w).mono ?_; rintro e Y1 ⟨rfl, h1, h2⟩; have HB1 := hide (HBD.out.code h1 h2 HINV.out HL.out); have s1 := HB1.out.cell 1 rfl; have s4 := HB1.out.cell 4 rfl; clear h1 h2)
    | (go_at_call 32; refine (HR Y1 (by rw [← HT.out.mem]; exact HB1.out.b.dx.mem)).mono ?_; rintro e Y2 ⟨rfl, h1, h2⟩; have HB2 := hide (HB1.out.doc (HB1.out.b.dx.memo (m := m1) h1 h2) (DFr.grown sv ld h2)); have HT2 := hide (HT.out.memo m1); have u1 := HB2.out.cell 1 rfl; have u4 := HB2.out.cell 4 rfl; clear h1 h2)
    | (go_at_call 10; refine (same_err f _).mono ?_; rintro e w' ⟨rfl, hw⟩; rw [hw]; clear hw w')))
  all_goals
   go_wp2
   go_ret
   exact ⟨rfl, lv, _, sv, ld, _, (HB2.out.b).weak (by omega), HT2.out⟩
 | false =>
  cases hk2 : (kd.toList == [117, 110, 109, 97, 112]) with
  | true => as_aux_lemma =>
   obtain ⟨⟨m1, f⟩, hmf⟩ : ∃ r, r = unmapW xn s.mem := ⟨_, rfl⟩
   have HINV := hide (show Inv P.p { s with mem := m1 } by have := mem_inv HI.out (unmapW_high xn s.mem).1 (unmapW_high xn s.mem).2; rw [← hmf] at this; exact this)
   have HM := fun Y (h : WX g gm P s lv Y) => wunmap_any xn h
   have HR := fun Y (h : Vr.IsD (LD gd Q d.T sv ld) d.mem Y) => (show Calls Tryz.prog 34 #[.pointer (some ⟨gd, 3, none⟩), .int .i64 xn] Y fun e w' => e = .returned (.int .i64 ((unmapW xn d.mem).2 : Nat)) ∧ Vr.IsD (LD gd Q d.T sv ld) (unmapW xn d.mem).1 w' ∧ Y.grownBy w' (some gd) from Vr.dunmap_any h xn)
   unfold GoesM at HM
   rw [hm] at HR
   rw [← hmf] at HM HR
   simp only at HM HR
   clear hmf hm
   have a1 : V0.drew.cell? ⟨r, 1, none⟩ = some (.int .i64 xn) := HBD.out.cell 1 rfl
   go_enter Tryz.func16, Tryz.ntmps16
   go_wp2_with fail
   rw [← HV0.out, ← HR0.out]
   clear HV0 HR0 c0
   go_region_held3 (fun w' => w'.cell? ⟨r, 1, none⟩ = some (.int .i64 xn))
    (first | (with_reducible exact ⟨a1⟩) | (with_reducible exact ⟨s1⟩) | (with_reducible exact ⟨u1⟩) | go_keep)
    ((first
     | (go_at_call 33; refine (HM V0.drew HBD.out.b.w).mono ?_; rintro e Y1 ⟨rfl, h1, h2⟩; have HB1 := hide (HBD.out.code h1 h2 HINV.out HL.out); have s1 := HB1.out.cell 1 rfl; clear h1 h2)
     | (go_at_call 34; refine (HR Y1 (by rw [← HT.out.mem]; exact HB1.out.b.dx.mem)).mono ?_; rintro e Y2 ⟨rfl, h1, h2⟩; have HB2 := hide (HB1.out.doc (HB1.out.b.dx.memo (m := m1) h1 h2) (DFr.grown sv ld h2)); have HT2 := hide (HT.out.memo m1); have u1 := HB2.out.cell 1 rfl; clear h1 h2)
     | (go_at_call 10; refine (same_err f _).mono ?_; rintro e w' ⟨rfl, hw⟩; rw [hw]; clear hw w')))
   all_goals
    go_wp2
    go_ret
    exact ⟨rfl, lv, _, sv, ld, _, (HB2.out.b).weak (by omega), HT2.out⟩
  | false =>
   cases hk3 : (kd.toList == [112, 117, 116]) with
   | true => as_aux_lemma =>
    obtain ⟨⟨m1, f⟩, hmf⟩ : ∃ r, r = putW xa xs s.mem := ⟨_, rfl⟩
    have HINV := hide (show Inv P.p { s with mem := m1 } by have := mem_inv HI.out (putW_high hxa xs HI.out.mem.fine).1 (putW_high hxa xs HI.out.mem.fine).2; rw [← hmf] at this; exact this)
    have HM := fun Y (h : WX g gm P s lv Y) => wput_any xa xs hxa (by omega) h
    have HR := fun Y (h : Vr.IsD (LD gd Q d.T sv ld) d.mem Y) => (show Calls Tryz.prog 36 #[.pointer (some ⟨gd, 3, none⟩), .int .u64 xa, .string xs] Y fun e w' => e = .returned (.int .i64 ((putW xa xs d.mem).2 : Nat)) ∧ Vr.IsD (LD gd Q d.T sv ld) (putW xa xs d.mem).1 w' ∧ Y.grownBy w' (some gd) from Vr.dput_any h xa xs hxa (by omega))
    unfold GoesM at HM
    rw [hm] at HR
    rw [← hmf] at HM HR
    simp only at HM HR
    clear hmf hm
    have a2 : V0.drew.cell? ⟨r, 2, none⟩ = some (.int .u64 xa) := HBD.out.cell 2 rfl
    have a3 : V0.drew.cell? ⟨r, 3, none⟩ = some (.string xs) := HBD.out.cell 3 rfl
    go_enter Tryz.func16, Tryz.ntmps16
    go_wp2_with fail
    rw [← HV0.out, ← HR0.out]
    clear HV0 HR0 c0
    go_region_held3 (fun w' => w'.cell? ⟨r, 2, none⟩ = some (.int .u64 xa) ∧ w'.cell? ⟨r, 3, none⟩ = some (.string xs))
     (first | (with_reducible exact ⟨a2, a3⟩) | (with_reducible exact ⟨s2, s3⟩) | (with_reducible exact ⟨u2, u3⟩) | go_keep)
     ((first
      | (go_at_call 35; refine (HM V0.drew HBD.out.b.w).mono ?_; rintro e Y1 ⟨rfl, h1, h2⟩; have HB1 := hide (HBD.out.code h1 h2 HINV.out HL.out); have s2 := HB1.out.cell 2 rfl; have s3 := HB1.out.cell 3 rfl; clear h1 h2)
      | (go_at_call 36; refine (HR Y1 (by rw [← HT.out.mem]; exact HB1.out.b.dx.mem)).mono ?_; rintro e Y2 ⟨rfl, h1, h2⟩; have HB2 := hide (HB1.out.doc (HB1.out.b.dx.memo (m := m1) h1 h2) (DFr.grown sv ld h2)); have HT2 := hide (HT.out.memo m1); have u2 := HB2.out.cell 2 rfl; have u3 := HB2.out.cell 3 rfl; clear h1 h2)
      | (go_at_call 10; refine (same_err f _).mono ?_; rintro e w' ⟨rfl, hw⟩; rw [hw]; clear hw w')))
    all_goals
     go_wp2
     go_ret
     exact ⟨rfl, lv, _, sv, ld, _, (HB2.out.b).weak (by omega), HT2.out⟩
   | false =>
    cases hk4 : (kd.toList == [101, 110, 116, 101, 114]) with
    | true => as_aux_lemma =>
     obtain ⟨⟨ns, f⟩, hsf⟩ : ∃ r, r = enterW xn k s := ⟨_, rfl⟩
     have HINV := hide (show Inv P.p ns by have := enterW_inv HI.out xn HKL.out; rw [← hsf] at this; exact this)
     have HLOG := hide (show ns.log.length ≤ K by have := enterW_log xn k s; rw [← hsf] at this; rw [this]; exact HL.out)
     have HM := fun Y (h : WX g gm P s lv Y) => wenter_any xn k h
     have HR := fun Y (h : DX gd Q d sv ld Y) => denter_any xn k HT.out h
     rw [← hsf] at HM HR
     unfold klV klC at HM HR
     simp only at HM HR
     clear hsf hm
     have a1 : V0.drew.cell? ⟨r, 1, none⟩ = some (.int .i64 xn) := HBD.out.cell 1 rfl
     have a5 : V0.drew.cell? ⟨r, 5, none⟩ = some (.int .u32 k.arch) := HBD.out.cell 5 rfl
     have a6 : V0.drew.cell? ⟨r, 6, none⟩ = some (.int .u32 k.nr) := HBD.out.cell 6 rfl
     have a7 : V0.drew.cell? ⟨r, 7, none⟩ = some (.int .u64 k.a0) := HBD.out.cell 7 rfl
     have a8 : V0.drew.cell? ⟨r, 8, none⟩ = some (.int .u64 k.a1) := HBD.out.cell 8 rfl
     have a9 : V0.drew.cell? ⟨r, 9, none⟩ = some (.int .u64 k.a2) := HBD.out.cell 9 rfl
     have a10 : V0.drew.cell? ⟨r, 10, none⟩ = some (.int .u64 k.a3) := HBD.out.cell 10 rfl
     go_enter Tryz.func16, Tryz.ntmps16
     go_wp2_with fail
     rw [← HV0.out, ← HR0.out]
     clear HV0 HR0 c0
     go_region_held3 (fun w' => w'.cell? ⟨r, 1, none⟩ = some (.int .i64 xn) ∧ w'.cell? ⟨r, 5, none⟩ = some (.int .u32 k.arch) ∧ w'.cell? ⟨r, 6, none⟩ = some (.int .u32 k.nr) ∧ w'.cell? ⟨r, 7, none⟩ = some (.int .u64 k.a0) ∧ w'.cell? ⟨r, 8, none⟩ = some (.int .u64 k.a1) ∧ w'.cell? ⟨r, 9, none⟩ = some (.int .u64 k.a2) ∧ w'.cell? ⟨r, 10, none⟩ = some (.int .u64 k.a3))
      (first | (with_reducible exact ⟨a1, a5, a6, a7, a8, a9, a10⟩) | (with_reducible exact ⟨s1, s5, s6, s7, s8, s9, s10⟩) | (with_reducible exact ⟨u1, u5, u6, u7, u8, u9, u10⟩) | go_keep)
      ((first
       | (go_at_call 14; refine (HM V0.drew HBD.out.b.w).mono ?_; rintro e Y1 ⟨rfl, h1, h2⟩; have HB1 := hide (HBD.out.code h1 h2 HINV.out HLOG.out); have s1 := HB1.out.cell 1 rfl; have s5 := HB1.out.cell 5 rfl; have s6 := HB1.out.cell 6 rfl; have s7 := HB1.out.cell 7 rfl; have s8 := HB1.out.cell 8 rfl; have s9 := HB1.out.cell 9 rfl; have s10 := HB1.out.cell 10 rfl; clear h1 h2)
       | (go_at_call 37; refine (HR Y1 HB1.out.b.dx).mono ?_; rintro e Y2 ⟨rfl, hh⟩; obtain ⟨d1, sv1, h0, h1, h2⟩ := hh; have HB2 := hide (HB1.out.doc h1 h2); have HT2 := hide h0; have u1 := HB2.out.cell 1 rfl; have u5 := HB2.out.cell 5 rfl; have u6 := HB2.out.cell 6 rfl; have u7 := HB2.out.cell 7 rfl; have u8 := HB2.out.cell 8 rfl; have u9 := HB2.out.cell 9 rfl; have u10 := HB2.out.cell 10 rfl; clear h1 h2 h0)
       | (go_at_call 10; refine (same_err f _).mono ?_; rintro e w' ⟨rfl, hw⟩; rw [hw]; clear hw w')))
     all_goals
      go_wp2
      go_ret
      exact ⟨rfl, lv, ns, sv1, ld, d1, (HB2.out.b).weak (by omega), HT2.out⟩
    | false => as_aux_lemma =>
     have HST := fun (s : WS) (lv : Value) Y (hi : Inv P.p s) (hl : s.log.length ≤ 1000000) (h : WX g gm P s lv Y) => wstep_any xn hp hi h hl
     have HDT := fun (s : WS) (d : DWS) (sv : Nat → Value) (ld : Value) Y (hi : Inv Q.p s) (ht : TieW s d) (hl : d.log.length ≤ 1000000) (h : DX gd Q d sv ld Y) => dstep_any xn (by rw [HQP.out]; exact hp) (by rw [HQP.out]; exact hq) hi ht h hl
     unfold GoesS at HST
     unfold DGoesS at HDT
     rw [HQP.out] at HDT
     have HPQ := hide (And.intro hp hq)
     have c2 : V0.cell? ⟨r, 2, none⟩ = some (.int .u64 xa) := HB0.out.cell 2 rfl
     clear hm hp hq
     cases hk5 : (kd.toList == [115, 116, 101, 112, 115]) with
     | true => as_aux_lemma =>
      obtain ⟨tm, htm⟩ : ∃ t : Nat, t = min xa 90 := ⟨_, rfl⟩
      have htm90 : tm ≤ 90 := by omega
      have a0 : min (xa : Int) 90 = (tm : Nat) := by omega
      have a1 : IntKind.wrap .i64 ((tm : Nat) : Int) = (tm : Nat) := by rw [IntKind.wrap_i64] <;> omega
      clear htm
      go_enter Tryz.func16, Tryz.ntmps16
      go_wp2_with fail
      rw [← HV0.out, ← HR0.out]
      go_wp2_with fail
      obtain ⟨c, hcc⟩ : ∃ c : Array Value, c = #[.string kd, .int .i64 xn, .int .u64 xa, .string xs, .bool xw, .int .u32 k.arch, .int .u32 k.nr, .int .u64 k.a0, .int .u64 k.a1, .int .u64 k.a2, .int .u64 k.a3] := ⟨_, rfl⟩
      rw [← hcc] at HB0
      have HCC := hide (show c[1]? = some (.int .i64 xn) by rw [hcc]; rfl)
      clear hcc
      go_loopw [8] (fun I w' => ∃ (i : Nat) (lv : Value) (s : WS) (sv : Nat → Value) (ld : Value) (d : DWS), i ≤ tm ∧ I = .int .i64 i ∧ Hid (BB P.p V g gm P lv s (K + i) gd Q sv ld d r c w') ∧ Hid (TieW s d)) (fun I _ => tm - (intOf I).toNat)
      case atStart => exact ⟨0, lv, s, sv, ld, d, by omega, rfl, HB0, HT⟩
      case round =>
       clear HB0 HT HI HL HBD
       obtain ⟨i, lv, s, sv, ld, d, hi, rfl, HB, HT⟩ := hrel
       by_cases hlt : i < tm
       ·
        as_aux_lemma =>
        have hl : (i : Int) < tm := by omega
        have c1 : wr.cell? ⟨r, 1, none⟩ = some (.int .i64 xn) := HB.out.cell 1 HCC.out
        have HC := HST s lv wr HB.out.b.inv (by have := HB.out.b.log; omega) HB.out.b.w
        have HD := fun sv ld Y h => HDT s d sv ld Y HB.out.b.inv HT.out (by rw [HT.out.log]; have := HB.out.b.log; omega) h
        have HN := hide (And.intro (stepW_inv HPQ.out.1 HPQ.out.2 HB.out.b.inv xn) (stepW_log HPQ.out.1 HB.out.b.inv xn))
        obtain ⟨⟨ns, bb, f⟩, hsf⟩ : ∃ r, r = stepW P.p xn s := ⟨_, rfl⟩
        rw [← hsf] at HC HN
        simp only [← hsf] at HD
        simp only at HC HN
        clear hsf
        go_wp2_with fail
        refine HC.mono ?_
        rintro e Y ⟨rfl, lv1, h1, h2⟩
        have HB1 := hide (HB.out.code (K' := K + (i + 1)) h1 h2 HN.out.1 (by have := HN.out.2; have := HB.out.b.log; omega))
        have c1' : Y.cell? ⟨r, 1, none⟩ = some (.int .i64 xn) := HB1.out.cell 1 HCC.out
        clear h1 h2 HC c1
        go_wp2_with fail
        refine (HD sv ld Y HB1.out.b.dx).mono ?_
        rintro e Z ⟨rfl, d1, sv1, ld1, h0, h1, h2⟩
        have HB2 := hide (HB1.out.doc h1 h2)
        have HT2 := hide h0
        clear h0 h1 h2 HD c1' HB1 HB HT HN HST HDT
        cases bb <;>
        ·
         go_wp2_with (go_at_call 10; refine (same_err f _).mono ?_; rintro e w' ⟨rfl, hw⟩; rw [hw]; clear hw w')
         go_round
         case rel => exact ⟨i + 1, lv1, ns, sv1, ld1, d1, by omega, by go_num, HB2, HT2⟩
         case measure => simp [intOf]; omega
       ·
        as_aux_lemma =>
        have hl : ¬ (i : Int) < tm := by omega
        go_wp2
        go_ret
        exact ⟨rfl, lv, s, sv, ld, d, (HB.out.b).weak (by omega), HT.out⟩
     | false => as_aux_lemma =>
      go_enter Tryz.func16, Tryz.ntmps16
      go_wp2_with fail
      rw [← HV0.out, ← HR0.out]
      obtain ⟨c, hcc⟩ : ∃ c : Array Value, c = #[.string kd, .int .i64 xn, .int .u64 xa, .string xs, .bool xw, .int .u32 k.arch, .int .u32 k.nr, .int .u64 k.a0, .int .u64 k.a1, .int .u64 k.a2, .int .u64 k.a3] := ⟨_, rfl⟩
      rw [← hcc] at HB0
      have HCC := hide (show c[1]? = some (.int .i64 xn) by rw [hcc]; rfl)
      clear hcc
      go_loopw [8] (fun I w' => ∃ (i : Nat) (lv : Value) (s : WS) (sv : Nat → Value) (ld : Value) (d : DWS), i ≤ 1 ∧ I = .int .i64 i ∧ Hid (BB P.p V g gm P lv s (K + i) gd Q sv ld d r c w') ∧ Hid (TieW s d)) (fun I _ => 1 - (intOf I).toNat)
      case atStart => exact ⟨0, lv, s, sv, ld, d, by omega, rfl, HB0, HT⟩
      case round =>
       clear HB0 HT HI HL HBD
       obtain ⟨i, lv, s, sv, ld, d, hi, rfl, HB, HT⟩ := hrel
       by_cases hlt : i < 1
       ·
        as_aux_lemma =>
        have hl : (i : Int) < 1 := by omega
        have c1 : wr.cell? ⟨r, 1, none⟩ = some (.int .i64 xn) := HB.out.cell 1 HCC.out
        have HC := HST s lv wr HB.out.b.inv (by have := HB.out.b.log; omega) HB.out.b.w
        have HD := fun sv ld Y h => HDT s d sv ld Y HB.out.b.inv HT.out (by rw [HT.out.log]; have := HB.out.b.log; omega) h
        have HN := hide (And.intro (stepW_inv HPQ.out.1 HPQ.out.2 HB.out.b.inv xn) (stepW_log HPQ.out.1 HB.out.b.inv xn))
        obtain ⟨⟨ns, bb, f⟩, hsf⟩ : ∃ r, r = stepW P.p xn s := ⟨_, rfl⟩
        rw [← hsf] at HC HN
        simp only [← hsf] at HD
        simp only at HC HN
        clear hsf
        go_wp2_with fail
        refine HC.mono ?_
        rintro e Y ⟨rfl, lv1, h1, h2⟩
        have HB1 := hide (HB.out.code (K' := K + (i + 1)) h1 h2 HN.out.1 (by have := HN.out.2; have := HB.out.b.log; omega))
        have c1' : Y.cell? ⟨r, 1, none⟩ = some (.int .i64 xn) := HB1.out.cell 1 HCC.out
        clear h1 h2 HC c1
        go_wp2_with fail
        refine (HD sv ld Y HB1.out.b.dx).mono ?_
        rintro e Z ⟨rfl, d1, sv1, ld1, h0, h1, h2⟩
        have HB2 := hide (HB1.out.doc h1 h2)
        have HT2 := hide h0
        clear h0 h1 h2 HD c1' HB1 HB HT HN HST HDT
        cases bb <;>
        ·
         go_wp2_with (go_at_call 10; refine (same_err f _).mono ?_; rintro e w' ⟨rfl, hw⟩; rw [hw]; clear hw w')
         go_round
         case rel => exact ⟨i + 1, lv1, ns, sv1, ld1, d1, by omega, by go_num, HB2, HT2⟩
         case measure => simp [intOf]; omega
       ·
        as_aux_lemma =>
        have hl : ¬ (i : Int) < 1 := by omega
        go_wp2
        go_ret
        exact ⟨rfl, lv, s, sv, ld, d, (HB.out.b).weak (by omega), HT.out⟩
end Go.Proofs.YtklibmijiecbfaaGreat
