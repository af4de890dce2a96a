/- warded: an act of both wards. -/
import Derived.Test.YtklibmijiecbfaaGreatK17
import Derived.Test.YtklibmijiecbfaaGreatK15
import Derived.Test.YtklibmijiecbfaaGreatK16
import Derived.Test.YtklibmijiecbfaaGreatK9
import Derived.Test.YtklibmijiecbfaaGreatK11
import Derived.Test.YtklibmijiecbfaaGreatK4
import Derived.Test.YtklibmijiecbfaaGreatK5
namespace Go.Proofs.YtklibmijiecbfaaGreat
open Go.RowKit Mm

/-- Both wards, and a box in a block of its own. -/
structure BB (p : POL) (V : World) (g gm : Nat) (P : PV) (lv : Value) (s : WS) (K : Nat) (gd : Nat) (Q : PV) (sv : Nat → Value) (ld : Value) (d : DWS) (r : Nat) (c : Array Value) (X : World) : Prop where
  b : BW p V g gm P lv s K gd Q sv ld d X
  box : X.heap[r]? = some (.cells c 54 (0, 0))
  nc : ¬ InC g gm lv r
  nd : ¬ InD gd sv ld r
theorem BB.start {p : POL} {V : World} {g gm : Nat} {P : PV} {lv : Value} {s : WS} {K : Nat} {gd : Nat} {Q : PV} {sv : Nat → Value} {ld : Value} {d : DWS} {X : World} (h : BW p V g gm P lv s K gd Q sv ld d X) (c : Array Value) : BB p V g gm P lv s K gd Q sv ld d X.heap.size c (X.alloc (.cells c 54)) :=
  ⟨h.on (box_below _ _), heap_alloc_new _ _, fun e => by have := h.w.inlt e; omega, fun e => by have := h.dx.inlt e; omega⟩
theorem BB.on {p : POL} {V : World} {g gm : Nat} {P : PV} {lv : Value} {s : WS} {K : Nat} {gd : Nat} {Q : PV} {sv : Nat → Value} {ld : Value} {d : DWS} {r : Nat} {c : Array Value} {X Y : World} (h : BB p V g gm P lv s K gd Q sv ld d r c X) (hb : Below X.heap.size X Y) : BB p V g gm P lv s K gd Q sv ld d r c Y :=
  ⟨h.b.on hb, (hb.block _ (Array.getElem?_eq_some_iff.1 h.box).1).trans h.box, h.nc, h.nd⟩
theorem BB.code {p : POL} {V : World} {g gm : Nat} {P : PV} {lv : Value} {s : WS} {K : Nat} {gd : Nat} {Q : PV} {sv : Nat → Value} {ld : Value} {d : DWS} {r : Nat} {c : Array Value} {lv' : Value} {s' : WS} {K' : Nat} {X Y : World} (h : BB p V g gm P lv s K gd Q sv ld d r c X) (hw : WX g gm P s' lv' Y) (hf : Fr g gm lv lv' X Y) (hi : Inv p s') (hl : s'.log.length ≤ K') : BB p V g gm P lv' s' K' gd Q sv ld d r c Y := by
  have hr := (Array.getElem?_eq_some_iff.1 h.box).1
  refine ⟨h.b.code hw hf hi hl, (hf.tch.block r hr h.nc).trans h.box, fun e => ?_, h.nd⟩
  rcases e with e | e | e
  · exact h.nc (.inl e)
  · exact h.nc (.inr (.inl e))
  · rcases hf.new r e with h1 | h1
    · exact h.nc (.inr (.inr h1))
    · omega
theorem BB.doc {p : POL} {V : World} {g gm : Nat} {P : PV} {lv : Value} {s : WS} {K : Nat} {gd : Nat} {Q : PV} {sv : Nat → Value} {ld : Value} {d : DWS} {r : Nat} {c : Array Value} {sv' : Nat → Value} {ld' : Value} {d' : DWS} {X Y : World} (h : BB p V g gm P lv s K gd Q sv ld d r c X) (hx : DX gd Q d' sv' ld' Y) (hf : DFr gd sv ld sv' ld' X Y) : BB p V g gm P lv s K gd Q sv' ld' d' r c Y := by
  have hr := (Array.getElem?_eq_some_iff.1 h.box).1
  refine ⟨h.b.doc hx hf, (hf.tch.block r hr h.nd).trans h.box, h.nc, fun e => ?_⟩
  rcases e with e | e | ⟨n, h3, e⟩
  · exact h.nd (.inl e)
  · rcases hf.newl r e with h1 | h1
    · exact h.nd (.inr (.inl h1))
    · omega
  · rcases hf.news n h3 r e with h1 | h1
    · exact h.nd (.inr (.inr ⟨n, h3, h1⟩))
    · omega
theorem BB.cell {p : POL} {V : World} {g gm : Nat} {P : PV} {lv : Value} {s : WS} {K : Nat} {gd : Nat} {Q : PV} {sv : Nat → Value} {ld : Value} {d : DWS} {r : Nat} {c : Array Value} {X : World} (h : BB p V g gm P lv s K gd Q sv ld d r c X) (j : Nat) {v : Value} (hv : c[j]? = some v) : X.cell? ⟨r, j, none⟩ = some v := by
  rw [cell_of_row _ _ j _ _ _ h.box]
  exact hv
/-- What warded comes to. -/
def WPost (p : POL) (V : World) (g gm : Nat) (P : PV) (K : Nat) (gd : Nat) (Q : PV) (e : Ending) (w' : World) : Prop := e = .returned (.bool true) ∧ ∃ lv' s' sv' ld' d', BW p V g gm P lv' s' (K + 90) gd Q sv' ld' d' w' ∧ TieW s' d'
set_option maxHeartbeats 4000000 in
set_option maxRecDepth 20000 in
theorem warded_any {p : POL} {V : World} {g gm : Nat} {P : PV} {lv : Value} {s : WS} {K : Nat} {gd : Nat} {Q : PV} {sv : Nat → Value} {ld : Value} {d : DWS} {X : World} (h : BW p V g gm P lv s K gd Q sv ld d X) (ht : TieW s d) (hp : polF p = 0) (hq : PolOk p) (hK : K ≤ 900000) (x : AC) (hc : x.callOk) (hxa : x.a < 18446744073709551616) (hxs : x.s.size ≤ 200) :
    Calls Tryz.prog 16 #[.pointer (some ⟨g, 0, none⟩), .pointer (some ⟨gd, 0, none⟩), .agg (acC x)] X (WPost p V g gm P K gd Q) := by
  have hkl := kcall_ok hc
  rw [acC_kl hc]
  obtain ⟨k, hk⟩ : ∃ k, k = kcall x := ⟨_, rfl⟩
  rw [← hk] at hkl
  rw [← hk]
  clear hk hc
  obtain ⟨kd, xn, xa, xs, xw, y0, y1, y2, y3, y4, y5⟩ := x
  unfold acA
  simp only at hxa hxs ⊢
  obtain ⟨r, hr⟩ : ∃ r, r = X.heap.size := ⟨_, rfl⟩
  obtain ⟨V0, hV0⟩ : ∃ V0, V0 = X.alloc (.cells #[.string kd, .int .i64 xn, .int .u64 xa, .string xs, .bool xw, .int .u32 k.arch, .int .u32 k.nr, .int .u64 k.a0, .int .u64 k.a1, .int .u64 k.a2, .int .u64 k.a3] 54) := ⟨_, rfl⟩
  have hB0 : BB p V g gm P lv s K gd Q sv ld d r #[.string kd, .int .i64 xn, .int .u64 xa, .string xs, .bool xw, .int .u32 k.arch, .int .u32 k.nr, .int .u64 k.a0, .int .u64 k.a1, .int .u64 k.a2, .int .u64 k.a3] V0 := by rw [hV0, hr]; exact BB.start h _
  have c0 : V0.cell? ⟨r, 0, none⟩ = some (.string kd) := hB0.cell 0 rfl
  have HB0 := hide hB0
  have HBD := hide (hB0.on (Below.refl _ _).drew)
  have HT := hide ht
  have HI := hide h.inv
  have HL := hide h.log
  have HKL := hide hkl
  have HV0 := hide hV0
  have HR0 := hide hr
  obtain rfl : P.p = p := h.pp
  have HQP := hide h.qp
  have hm : d.mem = s.mem := ht.mem
  clear h ht hV0 hr hkl hB0
  cases hk1 : (kd.toList == [109, 97, 112]) with
  | true => as_aux_lemma =>
    obtain ⟨⟨m1, f⟩, hmf⟩ : ∃ r, r = mapW xn xw s.mem := ⟨_, rfl⟩
    have HINV := hide (show Inv P.p { s with mem := m1 } by have := mem_inv HI.out (mapW_high xn xw s.mem).1 (mapW_high xn xw s.mem).2; rw [← hmf] at this; exact this)
    have HM := fun Y (h : WX g gm P s lv Y) => wmap_any xn xw h
    have HR := fun Y (h : Vr.IsD (LD gd Q d.T sv ld) d.mem Y) => (show Calls Tryz.prog 32 #[.pointer (some ⟨gd, 3, none⟩), .int .i64 xn, .bool xw] Y fun e w' => e = .returned (.int .i64 ((mapW xn xw d.mem).2 : Nat)) ∧ Vr.IsD (LD gd Q d.T sv ld) (mapW xn xw d.mem).1 w' ∧ Y.grownBy w' (some gd) from Vr.dmap_any h xn xw)
    unfold GoesM at HM
    rw [hm] at HR
    rw [← hmf] at HM HR
    simp only at HM HR
    clear hmf hm
    have a1 : V0.drew.cell? ⟨r, 1, none⟩ = some (.int .i64 xn) := HBD.out.cell 1 rfl
    have a4 : V0.drew.cell? ⟨r, 4, none⟩ = some (.bool xw) := HBD.out.cell 4 rfl
    go_enter Tryz.func16, Tryz.ntmps16
    go_wp2_with fail
    rw [← HV0.out, ← HR0.out]
    clear HV0 HR0 c0
    go_region_held3 (fun w' => w'.cell? ⟨r, 1, none⟩ = some (.int .i64 xn) ∧ w'.cell? ⟨r, 4, none⟩ = some (.bool xw))
      (first | (with_reducible exact ⟨a1, a4⟩) | (with_reducible exact ⟨s1, s4⟩) | (with_reducible exact ⟨u1, u4⟩) | go_keep)
      ((first
        | (go_at_call 13; refine (HM V0.drew HBD.out.b.w).mono ?_; rintro e Y1 ⟨rfl, h1, h2⟩; have HB1 := hide (HBD.out.code h1 h2 HINV.out HL.out); have s1 := HB1.out.cell 1 rfl; have s4 := HB1.out.cell 4 rfl; clear h1 h2)
        | (go_at_call 32; refine (HR Y1 (by rw [← HT.out.mem]; exact HB1.out.b.dx.mem)).mono ?_; rintro e Y2 ⟨rfl, h1, h2⟩; have HB2 := hide (HB1.out.doc (HB1.out.b.dx.memo (m := m1) h1 h2) (DFr.grown sv ld h2)); have HT2 := hide (HT.out.memo m1); have u1 := HB2.out.cell 1 rfl; have u4 := HB2.out.cell 4 rfl; clear h1 h2)
        | (go_at_call 10; refine (same_err f _).mono ?_; rintro e w' ⟨rfl, hw⟩; rw [hw]; clear hw w')))
    all_goals
      go_wp2
      go_ret
      exact ⟨rfl, lv, _, sv, ld, _, (HB2.out.b).weak (by omega), HT2.out⟩
  | false =>
    cases hk2 : (kd.toList == [117, 110, 109, 97, 112]) with
    | true => as_aux_lemma =>
      obtain ⟨⟨m1, f⟩, hmf⟩ : ∃ r, r = unmapW xn s.mem := ⟨_, rfl⟩
      have HINV := hide (show Inv P.p { s with mem := m1 } by have := mem_inv HI.out (unmapW_high xn s.mem).1 (unmapW_high xn s.mem).2; rw [← hmf] at this; exact this)
      have HM := fun Y (h : WX g gm P s lv Y) => wunmap_any xn h
      have HR := fun Y (h : Vr.IsD (LD gd Q d.T sv ld) d.mem Y) => (show Calls Tryz.prog 34 #[.pointer (some ⟨gd, 3, none⟩), .int .i64 xn] Y fun e w' => e = .returned (.int .i64 ((unmapW xn d.mem).2 : Nat)) ∧ Vr.IsD (LD gd Q d.T sv ld) (unmapW xn d.mem).1 w' ∧ Y.grownBy w' (some gd) from Vr.dunmap_any h xn)
      unfold GoesM at HM
      rw [hm] at HR
      rw [← hmf] at HM HR
      simp only at HM HR
      clear hmf hm
      have a1 : V0.drew.cell? ⟨r, 1, none⟩ = some (.int .i64 xn) := HBD.out.cell 1 rfl
      go_enter Tryz.func16, Tryz.ntmps16
      go_wp2_with fail
      rw [← HV0.out, ← HR0.out]
      clear HV0 HR0 c0
      go_region_held3 (fun w' => w'.cell? ⟨r, 1, none⟩ = some (.int .i64 xn))
        (first | (with_reducible exact ⟨a1⟩) | (with_reducible exact ⟨s1⟩) | (with_reducible exact ⟨u1⟩) | go_keep)
        ((first
          | (go_at_call 33; refine (HM V0.drew HBD.out.b.w).mono ?_; rintro e Y1 ⟨rfl, h1, h2⟩; have HB1 := hide (HBD.out.code h1 h2 HINV.out HL.out); have s1 := HB1.out.cell 1 rfl; clear h1 h2)
          | (go_at_call 34; refine (HR Y1 (by rw [← HT.out.mem]; exact HB1.out.b.dx.mem)).mono ?_; rintro e Y2 ⟨rfl, h1, h2⟩; have HB2 := hide (HB1.out.doc (HB1.out.b.dx.memo (m := m1) h1 h2) (DFr.grown sv ld h2)); have HT2 := hide (HT.out.memo m1); have u1 := HB2.out.cell 1 rfl; clear h1 h2)
          | (go_at_call 10; refine (same_err f _).mono ?_; rintro e w' ⟨rfl, hw⟩; rw [hw]; clear hw w')))
      all_goals
        go_wp2
        go_ret
        exact ⟨rfl, lv, _, sv, ld, _, (HB2.out.b).weak (by omega), HT2.out⟩
    | false =>
      cases hk3 : (kd.toList == [112, 117, 116]) with
      | true => as_aux_lemma =>
        obtain ⟨⟨m1, f⟩, hmf⟩ : ∃ r, r = putW xa xs s.mem := ⟨_, rfl⟩
        have HINV := hide (show Inv P.p { s with mem := m1 } by have := mem_inv HI.out (putW_high hxa xs HI.out.mem.fine).1 (putW_high hxa xs HI.out.mem.fine).2; rw [← hmf] at this; exact this)
        have HM := fun Y (h : WX g gm P s lv Y) => wput_any xa xs hxa (by omega) h
        have HR := fun Y (h : Vr.IsD (LD gd Q d.T sv ld) d.mem Y) => (show Calls Tryz.prog 36 #[.pointer (some ⟨gd, 3, none⟩), .int .u64 xa, .string xs] Y fun e w' => e = .returned (.int .i64 ((putW xa xs d.mem).2 : Nat)) ∧ Vr.IsD (LD gd Q d.T sv ld) (putW xa xs d.mem).1 w' ∧ Y.grownBy w' (some gd) from Vr.dput_any h xa xs hxa (by omega))
        unfold GoesM at HM
        rw [hm] at HR
        rw [← hmf] at HM HR
        simp only at HM HR
        clear hmf hm
        have a2 : V0.drew.cell? ⟨r, 2, none⟩ = some (.int .u64 xa) := HBD.out.cell 2 rfl
        have a3 : V0.drew.cell? ⟨r, 3, none⟩ = some (.string xs) := HBD.out.cell 3 rfl
        go_enter Tryz.func16, Tryz.ntmps16
        go_wp2_with fail
        rw [← HV0.out, ← HR0.out]
        clear HV0 HR0 c0
        go_region_held3 (fun w' => w'.cell? ⟨r, 2, none⟩ = some (.int .u64 xa) ∧ w'.cell? ⟨r, 3, none⟩ = some (.string xs))
          (first | (with_reducible exact ⟨a2, a3⟩) | (with_reducible exact ⟨s2, s3⟩) | (with_reducible exact ⟨u2, u3⟩) | go_keep)
          ((first
            | (go_at_call 35; refine (HM V0.drew HBD.out.b.w).mono ?_; rintro e Y1 ⟨rfl, h1, h2⟩; have HB1 := hide (HBD.out.code h1 h2 HINV.out HL.out); have s2 := HB1.out.cell 2 rfl; have s3 := HB1.out.cell 3 rfl; clear h1 h2)
            | (go_at_call 36; refine (HR Y1 (by rw [← HT.out.mem]; exact HB1.out.b.dx.mem)).mono ?_; rintro e Y2 ⟨rfl, h1, h2⟩; have HB2 := hide (HB1.out.doc (HB1.out.b.dx.memo (m := m1) h1 h2) (DFr.grown sv ld h2)); have HT2 := hide (HT.out.memo m1); have u2 := HB2.out.cell 2 rfl; have u3 := HB2.out.cell 3 rfl; clear h1 h2)
            | (go_at_call 10; refine (same_err f _).mono ?_; rintro e w' ⟨rfl, hw⟩; rw [hw]; clear hw w')))
        all_goals
          go_wp2
          go_ret
          exact ⟨rfl, lv, _, sv, ld, _, (HB2.out.b).weak (by omega), HT2.out⟩
      | false =>
        cases hk4 : (kd.toList == [101, 110, 116, 101, 114]) with
        | true => as_aux_lemma =>
          obtain ⟨⟨ns, f⟩, hsf⟩ : ∃ r, r = enterW xn k s := ⟨_, rfl⟩
          have HINV := hide (show Inv P.p ns by have := enterW_inv HI.out xn HKL.out; rw [← hsf] at this; exact this)
          have HLOG := hide (show ns.log.length ≤ K by have := enterW_log xn k s; rw [← hsf] at this; rw [this]; exact HL.out)
          have HM := fun Y (h : WX g gm P s lv Y) => wenter_any xn k h
          have HR := fun Y (h : DX gd Q d sv ld Y) => denter_any xn k HT.out h
          rw [← hsf] at HM HR
          unfold klV klC at HM HR
          simp only at HM HR
          clear hsf hm
          have a1 : V0.drew.cell? ⟨r, 1, none⟩ = some (.int .i64 xn) := HBD.out.cell 1 rfl
          have a5 : V0.drew.cell? ⟨r, 5, none⟩ = some (.int .u32 k.arch) := HBD.out.cell 5 rfl
          have a6 : V0.drew.cell? ⟨r, 6, none⟩ = some (.int .u32 k.nr) := HBD.out.cell 6 rfl
          have a7 : V0.drew.cell? ⟨r, 7, none⟩ = some (.int .u64 k.a0) := HBD.out.cell 7 rfl
          have a8 : V0.drew.cell? ⟨r, 8, none⟩ = some (.int .u64 k.a1) := HBD.out.cell 8 rfl
          have a9 : V0.drew.cell? ⟨r, 9, none⟩ = some (.int .u64 k.a2) := HBD.out.cell 9 rfl
          have a10 : V0.drew.cell? ⟨r, 10, none⟩ = some (.int .u64 k.a3) := HBD.out.cell 10 rfl
          go_enter Tryz.func16, Tryz.ntmps16
          go_wp2_with fail
          rw [← HV0.out, ← HR0.out]
          clear HV0 HR0 c0
          go_region_held3 (fun w' => w'.cell? ⟨r, 1, none⟩ = some (.int .i64 xn) ∧ w'.cell? ⟨r, 5, none⟩ = some (.int .u32 k.arch) ∧ w'.cell? ⟨r, 6, none⟩ = some (.int .u32 k.nr) ∧ w'.cell? ⟨r, 7, none⟩ = some (.int .u64 k.a0) ∧ w'.cell? ⟨r, 8, none⟩ = some (.int .u64 k.a1) ∧ w'.cell? ⟨r, 9, none⟩ = some (.int .u64 k.a2) ∧ w'.cell? ⟨r, 10, none⟩ = some (.int .u64 k.a3))
            (first | (with_reducible exact ⟨a1, a5, a6, a7, a8, a9, a10⟩) | (with_reducible exact ⟨s1, s5, s6, s7, s8, s9, s10⟩) | (with_reducible exact ⟨u1, u5, u6, u7, u8, u9, u10⟩) | go_keep)
            ((first
              | (go_at_call 14; refine (HM V0.drew HBD.out.b.w).mono ?_; rintro e Y1 ⟨rfl, h1, h2⟩; have HB1 := hide (HBD.out.code h1 h2 HINV.out HLOG.out); have s1 := HB1.out.cell 1 rfl; have s5 := HB1.out.cell 5 rfl; have s6 := HB1.out.cell 6 rfl; have s7 := HB1.out.cell 7 rfl; have s8 := HB1.out.cell 8 rfl; have s9 := HB1.out.cell 9 rfl; have s10 := HB1.out.cell 10 rfl; clear h1 h2)
              | (go_at_call 37; refine (HR Y1 HB1.out.b.dx).mono ?_; rintro e Y2 ⟨rfl, hh⟩; obtain ⟨d1, sv1, h0, h1, h2⟩ := hh; have HB2 := hide (HB1.out.doc h1 h2); have HT2 := hide h0; have u1 := HB2.out.cell 1 rfl; have u5 := HB2.out.cell 5 rfl; have u6 := HB2.out.cell 6 rfl; have u7 := HB2.out.cell 7 rfl; have u8 := HB2.out.cell 8 rfl; have u9 := HB2.out.cell 9 rfl; have u10 := HB2.out.cell 10 rfl; clear h1 h2 h0)
              | (go_at_call 10; refine (same_err f _).mono ?_; rintro e w' ⟨rfl, hw⟩; rw [hw]; clear hw w')))
          all_goals
            go_wp2
            go_ret
            exact ⟨rfl, lv, ns, sv1, ld, d1, (HB2.out.b).weak (by omega), HT2.out⟩
        | false => as_aux_lemma =>
          have HST := fun (s : WS) (lv : Value) Y (hi : Inv P.p s) (hl : s.log.length ≤ 1000000) (h : WX g gm P s lv Y) => wstep_any xn hp hi h hl
          have HDT := fun (s : WS) (d : DWS) (sv : Nat → Value) (ld : Value) Y (hi : Inv Q.p s) (ht : TieW s d) (hl : d.log.length ≤ 1000000) (h : DX gd Q d sv ld Y) => dstep_any xn (by rw [HQP.out]; exact hp) (by rw [HQP.out]; exact hq) hi ht h hl
          unfold GoesS at HST
          unfold DGoesS at HDT
          rw [HQP.out] at HDT
          have HPQ := hide (And.intro hp hq)
          have c2 : V0.cell? ⟨r, 2, none⟩ = some (.int .u64 xa) := HB0.out.cell 2 rfl
          clear hm hp hq
          cases hk5 : (kd.toList == [115, 116, 101, 112, 115]) with
          | true => as_aux_lemma =>
            obtain ⟨tm, htm⟩ : ∃ t : Nat, t = min xa 90 := ⟨_, rfl⟩
            have htm90 : tm ≤ 90 := by omega
            have a0 : min (xa : Int) 90 = (tm : Nat) := by omega
            have a1 : IntKind.wrap .i64 ((tm : Nat) : Int) = (tm : Nat) := by rw [IntKind.wrap_i64] <;> omega
            clear htm
            go_enter Tryz.func16, Tryz.ntmps16
            go_wp2_with fail
            rw [← HV0.out, ← HR0.out]
            go_wp2_with fail
            obtain ⟨c, hcc⟩ : ∃ c : Array Value, c = #[.string kd, .int .i64 xn, .int .u64 xa, .string xs, .bool xw, .int .u32 k.arch, .int .u32 k.nr, .int .u64 k.a0, .int .u64 k.a1, .int .u64 k.a2, .int .u64 k.a3] := ⟨_, rfl⟩
            rw [← hcc] at HB0
            have HCC := hide (show c[1]? = some (.int .i64 xn) by rw [hcc]; rfl)
            clear hcc
            go_loopw [8] (fun I w' => ∃ (i : Nat) (lv : Value) (s : WS) (sv : Nat → Value) (ld : Value) (d : DWS), i ≤ tm ∧ I = .int .i64 i ∧ Hid (BB P.p V g gm P lv s (K + i) gd Q sv ld d r c w') ∧ Hid (TieW s d)) (fun I _ => tm - (intOf I).toNat)
            case atStart => exact ⟨0, lv, s, sv, ld, d, by omega, rfl, HB0, HT⟩
            case round =>
              clear HB0 HT HI HL HBD
              obtain ⟨i, lv, s, sv, ld, d, hi, rfl, HB, HT⟩ := hrel
              by_cases hlt : i < tm
              · as_aux_lemma =>
                have hl : (i : Int) < tm := by omega
                have c1 : wr.cell? ⟨r, 1, none⟩ = some (.int .i64 xn) := HB.out.cell 1 HCC.out
                have HC := HST s lv wr HB.out.b.inv (by have := HB.out.b.log; omega) HB.out.b.w
                have HD := fun sv ld Y h => HDT s d sv ld Y HB.out.b.inv HT.out (by rw [HT.out.log]; have := HB.out.b.log; omega) h
                have HN := hide (And.intro (stepW_inv HPQ.out.1 HPQ.out.2 HB.out.b.inv xn) (stepW_log HPQ.out.1 HB.out.b.inv xn))
                obtain ⟨⟨ns, bb, f⟩, hsf⟩ : ∃ r, r = stepW P.p xn s := ⟨_, rfl⟩
                rw [← hsf] at HC HN
                simp only [← hsf] at HD
                simp only at HC HN
                clear hsf
                go_wp2_with fail
                refine HC.mono ?_
                rintro e Y ⟨rfl, lv1, h1, h2⟩
                have HB1 := hide (HB.out.code (K' := K + (i + 1)) h1 h2 HN.out.1 (by have := HN.out.2; have := HB.out.b.log; omega))
                have c1' : Y.cell? ⟨r, 1, none⟩ = some (.int .i64 xn) := HB1.out.cell 1 HCC.out
                clear h1 h2 HC c1
                go_wp2_with fail
                refine (HD sv ld Y HB1.out.b.dx).mono ?_
                rintro e Z ⟨rfl, d1, sv1, ld1, h0, h1, h2⟩
                have HB2 := hide (HB1.out.doc h1 h2)
                have HT2 := hide h0
                clear h0 h1 h2 HD c1' HB1 HB HT HN HST HDT
                cases bb <;>
                · go_wp2_with (go_at_call 10; refine (same_err f _).mono ?_; rintro e w' ⟨rfl, hw⟩; rw [hw]; clear hw w')
                  go_round
                  case rel => exact ⟨i + 1, lv1, ns, sv1, ld1, d1, by omega, by go_num, HB2, HT2⟩
                  case measure => simp [intOf]; omega
              · as_aux_lemma =>
                have hl : ¬ (i : Int) < tm := by omega
                go_wp2
                go_ret
                exact ⟨rfl, lv, s, sv, ld, d, (HB.out.b).weak (by omega), HT.out⟩
          | false => as_aux_lemma =>
            go_enter Tryz.func16, Tryz.ntmps16
            go_wp2_with fail
            rw [← HV0.out, ← HR0.out]
            obtain ⟨c, hcc⟩ : ∃ c : Array Value, c = #[.string kd, .int .i64 xn, .int .u64 xa, .string xs, .bool xw, .int .u32 k.arch, .int .u32 k.nr, .int .u64 k.a0, .int .u64 k.a1, .int .u64 k.a2, .int .u64 k.a3] := ⟨_, rfl⟩
            rw [← hcc] at HB0
            have HCC := hide (show c[1]? = some (.int .i64 xn) by rw [hcc]; rfl)
            clear hcc
            go_loopw [8] (fun I w' => ∃ (i : Nat) (lv : Value) (s : WS) (sv : Nat → Value) (ld : Value) (d : DWS), i ≤ 1 ∧ I = .int .i64 i ∧ Hid (BB P.p V g gm P lv s (K + i) gd Q sv ld d r c w') ∧ Hid (TieW s d)) (fun I _ => 1 - (intOf I).toNat)
            case atStart => exact ⟨0, lv, s, sv, ld, d, by omega, rfl, HB0, HT⟩
            case round =>
              clear HB0 HT HI HL HBD
              obtain ⟨i, lv, s, sv, ld, d, hi, rfl, HB, HT⟩ := hrel
              by_cases hlt : i < 1
              · as_aux_lemma =>
                have hl : (i : Int) < 1 := by omega
                have c1 : wr.cell? ⟨r, 1, none⟩ = some (.int .i64 xn) := HB.out.cell 1 HCC.out
                have HC := HST s lv wr HB.out.b.inv (by have := HB.out.b.log; omega) HB.out.b.w
                have HD := fun sv ld Y h => HDT s d sv ld Y HB.out.b.inv HT.out (by rw [HT.out.log]; have := HB.out.b.log; omega) h
                have HN := hide (And.intro (stepW_inv HPQ.out.1 HPQ.out.2 HB.out.b.inv xn) (stepW_log HPQ.out.1 HB.out.b.inv xn))
                obtain ⟨⟨ns, bb, f⟩, hsf⟩ : ∃ r, r = stepW P.p xn s := ⟨_, rfl⟩
                rw [← hsf] at HC HN
                simp only [← hsf] at HD
                simp only at HC HN
                clear hsf
                go_wp2_with fail
                refine HC.mono ?_
                rintro e Y ⟨rfl, lv1, h1, h2⟩
                have HB1 := hide (HB.out.code (K' := K + (i + 1)) h1 h2 HN.out.1 (by have := HN.out.2; have := HB.out.b.log; omega))
                have c1' : Y.cell? ⟨r, 1, none⟩ = some (.int .i64 xn) := HB1.out.cell 1 HCC.out
                clear h1 h2 HC c1
                go_wp2_with fail
                refine (HD sv ld Y HB1.out.b.dx).mono ?_
                rintro e Z ⟨rfl, d1, sv1, ld1, h0, h1, h2⟩
                have HB2 := hide (HB1.out.doc h1 h2)
                have HT2 := hide h0
                clear h0 h1 h2 HD c1' HB1 HB HT HN HST HDT
                cases bb <;>
                · go_wp2_with (go_at_call 10; refine (same_err f _).mono ?_; rintro e w' ⟨rfl, hw⟩; rw [hw]; clear hw w')
                  go_round
                  case rel => exact ⟨i + 1, lv1, ns, sv1, ld1, d1, by omega, by go_num, HB2, HT2⟩
                  case measure => simp [intOf]; omega
              · as_aux_lemma =>
                have hl : ¬ (i : Int) < 1 := by omega
                go_wp2
                go_ret
                exact ⟨rfl, lv, s, sv, ld, d, (HB.out.b).weak (by omega), HT.out⟩
end Go.Proofs.YtklibmijiecbfaaGreat

/- asWard: of two wards that are alike. -/
namespace Go.Proofs.YtklibmijiecbfaaGreat
open Go.RowKit Mm

theorem DX.memo2 {g : Nat} {P : PV} {d : DWS} {sv : Nat → Value} {lv : Value} {W V : World} (h : DX g P d sv lv W) {x : Nat} (hm : Vr.IsD (LD g P d.T sv lv) d.mem V) (ht : Tch (fun k => k = g ∨ k = x) W V) (hx : ¬ InD g sv lv x) (hpx : P.bd ≤ x) : DX g P d sv lv V := by
  have hbd := h.bd
  have hne : ∀ k, InD g sv lv k → k ≠ g → V.heap[k]? = W.heap[k]? := fun k hk hg => ht.block k (h.inlt hk) (fun e => by
    rcases e with e | e
    · exact hg e
    · exact hx (e ▸ hk))
  exact ⟨hm, ownsRow_heap h.own (fun k hk => hne k (.inr (.inl hk)) (fun e => h.nl.1 (by rw [← e]; exact hk))), fun n hn => ownsRow_heap (h.sls n hn) (fun k hk => hne k (.inr (.inr ⟨n, hn, hk⟩)) (fun e => h.nl.2 n hn (by rw [← e]; exact hk))), h.nl, h.ap, Nat.le_trans h.bd ht.size, fun U hU hs => h.pol U (fun k hk n1 n2 n3 => (hU k hk n1 n2 n3).trans (ht.block k (by omega) (fun e => by
    rcases e with e | e
    · exact n1 e
    · omega))) hs⟩
theorem BW.mem2 {p : POL} {V : World} {g gm : Nat} {P : PV} {lv : Value} {s : WS} {K : Nat} {gd : Nat} {Q : PV} {sv : Nat → Value} {ld : Value} {d : DWS} {X Y : World} {x : Nat} (h : BW p V g gm P lv s K gd Q sv ld d X) (hm : Vr.IsD (LD gd Q d.T sv ld) d.mem Y) (ht : Tch (fun k => k = gd ∨ k = x) X Y) (hc : ¬ InC g gm lv x) (hd : ¬ InD gd sv ld x) (hp : P.bd ≤ x) : BW p V g gm P lv s K gd Q sv ld d Y := by
  have hv := h.vb
  have hgd := h.dl gd (.inl rfl)
  refine ⟨h.w.keep ht (fun k hk => ?_), h.pp, h.qp, h.inv, h.log, ht.below h.below (fun k hk => ?_), h.dx.memo2 hm ht hd (by omega), h.vb, h.cl, h.dl, h.ap⟩
  · rcases hk with rfl | rfl
    · exact ⟨fun e => h.ap _ e (.inl rfl), hgd⟩
    · exact ⟨hc, hp⟩
  · rcases hk with rfl | rfl
    · omega
    · omega
set_option maxHeartbeats 4000000 in
set_option maxRecDepth 20000 in
theorem asWard_any {p : POL} {V : World} {g gm : Nat} {P : PV} {lv : Value} {s : WS} {K : Nat} {gd : Nat} {Q : PV} {sv : Nat → Value} {ld : Value} {d : DWS} {X : World} (h : BW p V g gm P lv s K gd Q sv ld d X) (ht : TieW s d) (hK : K ≤ 1000000) :
    Calls Tryz.prog 17 #[.pointer (some ⟨g, 0, none⟩), .pointer (some ⟨gd, 0, none⟩)] X fun e w' => e = .returned (.bool true) ∧ BW p V g gm P lv s K gd Q sv ld d w' := by
  have HT := hide ht
  have HB := hide h
  clear h ht
  go_enter Tryz.func17, Tryz.ntmps17
  go_wp2_with fail
  go_loopw [5] (fun I w' => ∃ i : Nat, i ≤ 3 ∧ I = .int .i64 i ∧ Hid (BW p V g gm P lv s K gd Q sv ld d w')) (fun I _ => 3 - (intOf I).toNat)
  case atStart => exact ⟨0, by omega, rfl, HB⟩
  case round =>
    clear HB
    obtain ⟨i, hi, rfl, HB⟩ := hrel
    by_cases hlt : i < 3
    · as_aux_lemma =>
      have hl : (i : Int) < 3 := by omega
      have k1 : (0 : Int) ≤ i := by omega
      obtain ⟨ph, hph⟩ : ∃ x, x = (d.T i).phase := ⟨_, rfl⟩
      have c1 : wr.cell? ⟨gd, 783 + i * 31, none⟩ = some (.int .i64 (ph : Nat)) := by rw [hph]; exact HB.out.dx.phase i hlt
      have HP := fun m => wphase_any (W := wr.drewN m) (i : Int) (HB.out.w.on (below_drewN (Below.refl _ _) m))
      rw [show phaseW (i : Int) s = ph by unfold phaseW; rw [if_pos ⟨k1, hl⟩, Int.toNat_natCast, hph]; exact (HT.out.thr i hlt).phase.symm] at HP
      clear hph
      go_wp2_with fail
      go_quiet ((go_at_call 39; exact Calls.quiet_of_same (HP _)))
      have HB2 := hide (HB.out.on (below_drewN (Below.refl _ _) nq))
      go_wp2
      go_round
      case rel => exact ⟨i + 1, by omega, by go_num, HB2⟩
      case measure => simp [intOf]; omega
    · as_aux_lemma =>
      have hl : ¬ (i : Int) < 3 := by omega
      have HMM := wmem_any HB.out.w
      obtain ⟨xb, hxb⟩ : ∃ x, x = wr.heap.size := ⟨_, rfl⟩
      rw [← hxb] at HMM
      have HX := hide (show ¬ InC g gm lv xb ∧ ¬ InD gd sv ld xb ∧ P.bd ≤ xb from ⟨fun e => by have := HB.out.w.inlt e; omega, fun e => by have := HB.out.dx.inlt e; omega, by have := HB.out.w.bd; omega⟩)
      have HXB := hide hxb
      clear hxb hlt
      go_wp2_with fail
      refine HMM.mono ?_
      rintro e X1 ⟨rfl, hM1, hb1⟩
      rw [HXB.out] at hb1
      have HB1 := hide (HB.out.on hb1.drew)
      have HM1 := hide (show IsM xb s.mem X1.drew from hM1)
      have c1 : X1.drew.cell? ⟨gd, 876, none⟩ = some ld := HB1.out.dx.logc
      have HLG := wlog_any HB1.out.w (Nat.le_trans HB1.out.log hK)
      obtain ⟨lb, hlb⟩ : ∃ x, x = X1.drew.heap.size := ⟨_, rfl⟩
      rw [← hlb] at HLG
      have HLB := hide hlb
      have HPX := fun (n : Int) Y (h : WX g gm P s lv Y) (hn : phaseW n s = 6) => (show Calls Tryz.prog 39 #[.pointer (some ⟨g, 0, none⟩), .int .i64 n] Y fun e w' => e = .returned (.int .i64 6) ∧ w' = Y from (wphase_any n h).mono fun e w' ⟨he, hw⟩ => ⟨by rw [he, hn]; rfl, hw⟩)
      have HSL := fun (Y : World) hA (ho : Y.ownsRow 0 70 21 ld s.log.length (flatE s.log)) => sameLog2_any s.log lb Y hA ld ho (Nat.le_trans HB1.out.log hK)
      have HAM := fun (Y : World) (hM : IsM xb s.mem Y) (hD : Vr.IsD (LD gd Q d.T sv ld) s.mem Y) => (show Calls Tryz.prog 41 #[.pointer (some ⟨xb, 0, none⟩), .pointer (some ⟨gd, 3, none⟩)] Y fun e w' => e = .returned (.bool true) ∧ IsM xb s.mem w' ∧ Vr.IsD (LD gd Q d.T sv ld) s.mem w' ∧ Kp xb gd Y w' from asMemD_any (fun e => HX.out.2.1 (.inl e)) hM hD)
      obtain ⟨LL, hLL⟩ : ∃ x, x = s.log.length := ⟨_, rfl⟩
      rw [← hLL] at HLG
      have HLL := hide hLL
      simp only [← hLL] at HSL
      clear hlb hM1 hb1 HMM hLL
      go_wp2_with fail
      go_region_held3 (fun w' => w'.cell? ⟨gd, 876, none⟩ = some ld)
        (first | (with_reducible exact c1) | (with_reducible exact c2) | (with_reducible exact c3) | (with_reducible exact c4) | go_keep)
        ((first
          | (go_at_call 18; refine HLG.mono ?_; rintro e Y1 ⟨rfl, hrow, hb⟩; rw [HLB.out] at hb; have HB2 := hide (HB1.out.on hb); have HM2 := hide (HM1.out.on hb); have HRW := hide hrow; have c2 : Y1.cell? ⟨gd, 876, none⟩ = some ld := HB2.out.dx.logc; clear hrow hb)
          | (go_at_call 40; refine (HSL Y1 HRW.out (by rw [HLL.out, ← HT.out.log]; exact HB2.out.dx.own)).mono ?_; rintro e Y2 ⟨rfl, hb⟩; have HB3 := hide (HB2.out.on hb); have HM3 := hide (HM2.out.on hb); have c3 : Y2.cell? ⟨gd, 876, none⟩ = some ld := HB3.out.dx.logc; clear hb)
          | (go_at_call 41; refine (HAM Y2 HM3.out (by rw [← HT.out.mem]; exact HB3.out.dx.mem)).mono ?_; rintro e Y3 ⟨rfl, hM, hD, hK⟩; have HB4 := hide (HB3.out.mem2 (x := xb) (by rw [HT.out.mem]; exact hD) ⟨hK.os, hK.tape, hK.output, hK.size, fun k hk hn => hK.block k hk (fun e => hn (.inr e)) (fun e => hn (.inl e))⟩ HX.out.1 HX.out.2.1 HX.out.2.2); have c4 : Y3.cell? ⟨gd, 876, none⟩ = some ld := HB4.out.dx.logc; clear hM hD hK)
          | (go_at_call 39; refine (HPX _ Y3 HB4.out.w ?_).mono ?_; (· rfl); rintro e w' ⟨rfl, hw⟩; rw [hw]; clear hw w')))
      all_goals
        go_wp2
        go_ret
        exact ⟨rfl, HB4.out⟩
end Go.Proofs.YtklibmijiecbfaaGreat

/- modelled: the document's ward, new; wards: a closed fact. -/
namespace Go.Proofs.YtklibmijiecbfaaGreat
open Go.RowKit Mm

def nilS : Nat → Value := fun _ => .slice none 0 0
set_option maxRecDepth 100000 in
set_option maxHeartbeats 2000000 in
theorem modelled_any (p : POL) (oa : Option Addr) (cap B : Nat) (W : World) (hpol : ∀ V : World, (∀ k, k < B → V.heap[k]? = W.heap[k]?) → B ≤ V.heap.size → IsPol oa cap p V) (hB : B ≤ W.heap.size) :
    Calls Tryz.prog 11 #[polV p oa cap] W fun e w' => e = .returned (.pointer (some ⟨W.heap.size + 1, 0, none⟩)) ∧ DX (W.heap.size + 1) ⟨p, oa, cap, B⟩ newD nilS (.slice none 0 0) w' ∧ Below W.heap.size W w' := by
  obtain ⟨zt, hzt⟩ : ∃ z, z = VA 877 (Vr.lay (LD (W.heap.size + 1) ⟨p, oa, cap, B⟩ (fun _ => dIdle 0) nilS (.slice none 0 0)) zeroR) := ⟨_, rfl⟩
  have HZT := hide hzt
  obtain ⟨n, hn⟩ : ∃ n, n = p.rules.length := ⟨_, rfl⟩
  obtain ⟨ak, hak⟩ : ∃ n, n = p.els.kind := ⟨_, rfl⟩
  obtain ⟨ae, hae⟩ : ∃ n, n = p.els.errno := ⟨_, rfl⟩
  have HZ2 := hide (show zt = VA0 877 (fun i => if 3 ≤ i ∧ i < 783 then cellR zeroR (i - 3) else if i = 0 then .slice oa n cap else if i = 1 then .int .i64 ak else if i = 2 then .int .i64 ae else if i < 876 then cellDT (dIdle 0) (.slice none 0 0) ((i - 783) % 31) else .slice none 0 0) by
    rw [hzt, ← VA_eq]
    refine VA_congr _ _ _ fun i hi => ?_
    rw [hn, hak, hae]
    rfl)
  unfold polV
  rw [← hn, ← hak, ← hae]
  clear hzt hn hak hae
  go_enter Tryz.func11, Tryz.ntmps11
  go_wp2_with (first
    | (refine wpList_buildTo rfl 95 _ rfl (some 4) rfl zt (by rw [HZ2.out]; kernel_rfl) ?_))
  go_ret
  obtain ⟨V1, hV1⟩ : ∃ V1, V1 = W.alloc (.cells #[.slice oa n cap, .int .i64 ak, .int .i64 ae] 26) := ⟨_, rfl⟩
  have hs1 : V1.heap.size = W.heap.size + 1 := by rw [hV1, World.size_alloc]
  have hb1 : Below W.heap.size W V1 := by rw [hV1]; exact box_below _ _
  rw [← hV1]
  have hb2 := box_below V1 (.cells zt 95)
  have hbb := below_next hb1 hb2
  refine ⟨by first | rfl | rw [← hs1], ⟨⟨zeroR, ?_, rel_zero⟩, World.ownsRow_nil _ _ _ _, fun _ _ => World.ownsRow_nil _ _ _ _, ⟨fun e => (by cases e), fun _ _ e => (by cases e)⟩, fun _ _ _ e => (by cases e), Nat.le_trans hB hbb.size, fun U hU hs => hpol U (fun k hk => ?_) hs⟩, hbb⟩
  · show (V1.alloc (.cells zt 95)).heap[W.heap.size + 1]? = _
    rw [← hs1, HZT.out, ← hs1]
    exact heap_alloc_new V1 _
  · have hk' : k < B := hk
    exact (hU k hk (by omega) (fun e => by cases e) (fun _ _ e => by cases e)).trans (hbb.block k (by omega))
/-- The policy of the closed fact. -/
def polA : POL := ⟨[], ⟨1, 0⟩⟩
def callA : KL := ⟨3221225534, 3, 0, 0, 0, 0⟩
set_option maxRecDepth 20000 in
set_option maxHeartbeats 2000000 in
theorem wards_any (W : World) : Calls Tryz.prog 4 #[] W fun e w' => e = .returned (.bool true) ∧ Below W.heap.size W w' := by
  have hp : polF polA = 0 := by decide
  have hpl : PlOk polA := ⟨fun r hr => (by cases hr), ⟨(by unfold I64; exact ⟨by decide, by decide⟩), (by unfold I64; exact ⟨by decide, by decide⟩)⟩⟩
  have hq : PolOk polA := pol_ok hp hpl
  have hkl : KlOk callA := ⟨by decide, by decide, by decide, by decide, by decide, by decide⟩
  have HN := new_ok polA hp none 0 W ⟨IsRules.nil _ _, Nat.le_refl _, Nat.zero_le _, hpl⟩
  rw [show polV polA none 0 = .agg #[.slice none 0 0, .int .i64 1, .int .i64 0] from rfl] at HN
  have HPQ := hide (And.intro hp hq)
  have HKL := hide hkl
  clear hp hq hkl hpl
  go_enter Tryz.func4, Tryz.ntmps4
  go_wp2_with fail
  refine HN.mono ?_
  rintro e X0 ⟨g, gm, P, rfl, hX0⟩
  have hpp := hX0.pol
  have HST := fun (s : WS) (lv : Value) Y (hi : Inv P.p s) (hl : s.log.length ≤ 1000000) (h : WX g gm P s lv Y) => wstep_any 1 (by rw [hpp]; exact HPQ.out.1) hi h hl
  unfold GoesS at HST
  rw [hpp] at HST
  have HE := wenter_any 1 callA hX0.ward
  rw [show (enterW 1 callA newS).2 = 0 from by kernel_rfl, errV_zero, show klV callA = .agg #[.int .u32 3221225534, .int .u32 3, .int .u64 0, .int .u64 0, .int .u64 0, .int .u64 0] from rfl] at HE
  have HI1 := hide (enterW_inv (new_inv polA) 1 HKL.out)
  obtain ⟨s1, hs1⟩ : ∃ s, s = (enterW 1 callA newS).1 := ⟨_, rfl⟩
  have HQ1 := hide (show (stepW polA 1 s1).2.1 = true ∧ (stepW polA 1 s1).2.2 = 0 by rw [hs1]; exact ⟨by kernel_rfl, by kernel_rfl⟩)
  have HQ2 := hide (show (stepW polA 1 (stepW polA 1 s1).1).2.1 = true ∧ (stepW polA 1 (stepW polA 1 s1).1).2.2 = 0 by rw [hs1]; exact ⟨by kernel_rfl, by kernel_rfl⟩)
  have HQ3 := hide (show (stepW polA 1 (stepW polA 1 s1).1).1.log = [⟨1, 1, callA, zeroVS, 0⟩] by rw [hs1]; kernel_rfl)
  have HL1 := hide (show s1.log.length ≤ 0 by rw [hs1, enterW_log]; exact Nat.le_refl _)
  rw [← hs1] at HE HI1
  have HI2 := hide (stepW_inv HPQ.out.1 HPQ.out.2 HI1.out 1)
  have HL2 := hide (stepW_log HPQ.out.1 HI1.out 1)
  have HC1 := fun lv Y h => HST s1 lv Y HI1.out (by have := HL1.out; omega) h
  simp only [HQ1.out.1, HQ1.out.2, errV_zero] at HC1
  obtain ⟨s2, hs2⟩ : ∃ s, s = (stepW polA 1 s1).1 := ⟨_, rfl⟩
  rw [← hs2] at HQ2 HQ3 HI2 HL2
  simp only [← hs2] at HC1
  have HC2 := fun lv Y h => HST s2 lv Y HI2.out (by have := HL1.out; have := HL2.out; omega) h
  simp only [HQ2.out.1, HQ2.out.2, errV_zero] at HC2
  obtain ⟨s3, hs3⟩ : ∃ s, s = (stepW polA 1 s2).1 := ⟨_, rfl⟩
  rw [← hs3] at HQ3
  simp only [← hs3] at HC2
  have HB0 := hide hX0.below
  have HGM := hide (And.intro hX0.g hX0.m)
  have HLG := fun lv Y (h : WX g gm P s3 lv Y) => wlog_any h (by rw [HQ3.out]; exact Nat.le_of_ble_eq_true rfl)
  simp only [HQ3.out] at HLG
  clear hs1 hs2 hs3 HST HN hX0 hpp
  go_wp2_with (go_at_call 14; refine HE.mono ?_; rintro e X1 ⟨rfl, h1, h2⟩)
  refine (HC1 _ X1 h1).mono ?_
  rintro e X2 ⟨rfl, lv2, h3, h4⟩
  go_wp2_with fail
  refine (HC2 _ X2 h3).mono ?_
  rintro e X3 ⟨rfl, lv3, h5, h6⟩
  have HF := hide (h2.trans (h4.trans h6))
  clear HC1 HC2 HE h1 h2 h3 h4 h6
  go_wp2_with fail
  refine (HLG lv3 X3 h5).mono ?_
  rintro e X4 ⟨rfl, hrow, hb⟩
  have r0 : X4.cell? ⟨X3.heap.size, 0, none⟩ = some (.int .i64 1) := cell_of_row _ _ 0 _ _ _ hrow
  have r1 : X4.cell? ⟨X3.heap.size, 1, none⟩ = some (.int .i64 1) := cell_of_row _ _ 1 _ _ _ hrow
  have HB4 := hide (below_next (HF.out.below HB0.out HB0.out.size HGM.out.1 HGM.out.2 (fun k hk => by cases hk)) hb)
  clear hrow hb HLG h5
  go_wp2_with (go_at_call 10; refine (same_nil 0 _).mono ?_; rintro e w' ⟨rfl, hw⟩; rw [hw]; clear hw w')
  go_ret
  exact ⟨rfl, HB4.out⟩
end Go.Proofs.YtklibmijiecbfaaGreat

/- The caller writes into its own policy: nothing else turns. -/
namespace Go.Proofs.YtklibmijiecbfaaGreat
open Go.RowKit Mm

/-- A world in which only the blocks from B to T may have turned, the rules and conds of a policy among them. -/
structure WrX (B T : Nat) (ob : Option Addr) (es : List RE) (X0 X : World) : Prop where
  fr : X.os = X0.os ∧ X.tape = X0.tape ∧ X.output = X0.output ∧ X.heap.size = X0.heap.size
  out : ∀ k, k < B ∨ T ≤ k → X.heap[k]? = X0.heap[k]?
  rul : 0 < es.length → ∃ b cur, ob = some ⟨b, 0, none⟩ ∧ B ≤ b ∧ b < T ∧ X.heap[b]? = some (.cells cur 41 (0, 0)) ∧ es.length * 4 ≤ cur.size ∧ ∀ i e, es[i]? = some e → cur[i * 4 + 1]? = some (.slice e.2.1 e.1.conds.length e.2.2)
  cds : ∀ e ∈ es, ∃ b cur, e.2.1 = some ⟨b, 0, none⟩ ∧ B ≤ b ∧ b < T ∧ ob ≠ some ⟨b, 0, none⟩ ∧ X.heap[b]? = some (.cells cur 47 (0, 0)) ∧ e.1.conds.length * 9 ≤ cur.size
theorem conds_size {W : World} {b : Nat} {cs : List CD} {cur : Array Value} (h : IsConds (some ⟨b, 0, none⟩) cs W) (hr : W.heap[b]? = some (.cells cur 47 (0, 0))) : cs.length * 9 ≤ cur.size := by
  by_cases h0 : cs.length = 0
  · omega
  · obtain ⟨b', off, he, _, hx⟩ := h.lie (by omega)
    simp only [Option.some.injEq, Addr.mk.injEq] at he
    obtain ⟨rfl, rfl, _⟩ := he
    obtain ⟨c, hc⟩ : ∃ c, cs[cs.length - 1]? = some c := ⟨_, List.getElem?_eq_getElem (by omega)⟩
    have := (hx _ c hc).k8
    rw [cell_of_row _ _ _ _ _ _ hr] at this
    have := (Array.getElem?_eq_some_iff.1 this).1
    omega
theorem WrX.start {B T : Nat} {ob : Option Addr} {cb : Nat} {p : POL} {W X : World} (h : OwnsPol B ob cb p W) (hT : T = W.heap.size) (hb : Below W.heap.size W X) : ∃ es : List RE, es.map (·.1) = p.rules ∧ WrX B T ob es X X := by
  obtain ⟨es, hm, ho, hc, hr⟩ := h
  refine ⟨es, hm, ⟨rfl, rfl, rfl, rfl⟩, fun _ _ => rfl, fun h0 => ?_, fun e he => ?_⟩
  · rcases ho.2 with ⟨_, h1⟩ | ⟨b, cap, cur, h1, h2, h3, h4, h5, h6, h7⟩
    · omega
    · simp only [Value.slice.injEq] at h1
      have hlt : b < W.heap.size := (Array.getElem?_eq_some_iff.1 h3).1
      refine ⟨b, cur, h1.1, by omega, by omega, (hb.block b hlt).trans h3, by rw [h6]; omega, fun i e he => ?_⟩
      have hi : i < es.length := (List.getElem?_eq_some_iff.1 he).1
      have h8 := flatR_get es i e 1 he (by omega)
      rw [← h7, List.getElem?_take, if_pos (by omega)] at h8
      rw [show (ruleE e).toList[1]? = some (.slice e.2.1 e.1.conds.length e.2.2) from rfl] at h8
      simpa using h8
  · obtain ⟨_, q2, _, _, q5⟩ := hc e he
    obtain ⟨b, cur, h1, h2⟩ := hr e he
    have h3 := q5 b 0 h1
    refine ⟨b, cur, h1, by omega, by omega, fun e1 => ?_, (hb.block b h3.2.2).trans h2, ?_⟩
    · rw [e1] at h3
      exact h3.2.1 rfl
    · rw [h1] at q2
      exact conds_size q2 h2
theorem WrX.nr {B T : Nat} {ob : Option Addr} {es : List RE} {X0 X : World} (h : WrX B T ob es X0 X) (i b : Nat) (hi : i < es.length) (hob : ob = some ⟨b, 0, none⟩) (v : Value) : WrX B T ob es X0 (X.setCell ⟨b, i * 4, none⟩ v) := by
  obtain ⟨b', cur, h1, h2, h3, h4, h5, h6⟩ := h.rul (by omega)
  rw [hob] at h1
  simp only [Option.some.injEq, Addr.mk.injEq] at h1
  obtain ⟨rfl, _⟩ := h1
  rw [setCell_eq_setRow _ _ _ _ _ _ _ h4]
  have hoth : ∀ k, k ≠ b → (X.setRow b (cur.setIfInBounds (i * 4) v)).heap[k]? = X.heap[k]? := fun k hk => row_heap X b k _ hk
  refine ⟨⟨h.fr.1, h.fr.2.1, h.fr.2.2.1, by rw [row_size]; exact h.fr.2.2.2⟩, fun k hk => (hoth k (by omega)).trans (h.out k hk), fun _ => ⟨b, _, hob, h2, h3, setRow_heap _ _ _ _ _ _ h4, by simpa using h5, fun j e he => ?_⟩, fun e he => ?_⟩
  · rw [Array.getElem?_setIfInBounds, if_neg (by omega)]
    exact h6 j e he
  · obtain ⟨bc, cc, q1, q2, q3, q4, q5, q6⟩ := h.cds e he
    exact ⟨bc, cc, q1, q2, q3, q4, (hoth bc (fun e1 => q4 (by rw [hob, e1]))).trans q5, q6⟩
theorem WrX.op {B T : Nat} {ob : Option Addr} {es : List RE} {X0 X : World} (h : WrX B T ob es X0 X) (bc j : Nat) {e0 : RE} (he0 : e0 ∈ es) (hbc : e0.2.1 = some ⟨bc, 0, none⟩) (v : Value) : WrX B T ob es X0 (X.setCell ⟨bc, j, none⟩ v) := by
  obtain ⟨b', cur, h1, h2, h3, h4, h5, h6⟩ := h.cds e0 he0
  rw [hbc] at h1
  simp only [Option.some.injEq, Addr.mk.injEq] at h1
  obtain ⟨rfl, _⟩ := h1
  rw [setCell_eq_setRow _ _ _ _ _ _ _ h5]
  have hoth : ∀ k, k ≠ bc → (X.setRow bc (cur.setIfInBounds j v)).heap[k]? = X.heap[k]? := fun k hk => row_heap X bc k _ hk
  refine ⟨⟨h.fr.1, h.fr.2.1, h.fr.2.2.1, by rw [row_size]; exact h.fr.2.2.2⟩, fun k hk => (hoth k (by omega)).trans (h.out k hk), fun h0 => ?_, fun e he => ?_⟩
  · obtain ⟨b, cr, q1, q2, q3, q4, q5, q6⟩ := h.rul h0
    exact ⟨b, cr, q1, q2, q3, (hoth b (fun e1 => h4 (by rw [q1, e1]))).trans q4, q5, q6⟩
  · obtain ⟨b, cc, q1, q2, q3, q4, q5, q6⟩ := h.cds e he
    by_cases hbb : b = bc
    · subst hbb
      have : cc = cur := by rw [h5] at q5; simpa using q5.symm
      subst this
      exact ⟨b, _, q1, q2, q3, q4, setRow_heap _ _ _ _ _ _ h5, by simpa using q6⟩
    · exact ⟨b, cc, q1, q2, q3, q4, (hoth b hbb).trans q5, q6⟩
theorem WrX.cell {B T : Nat} {ob : Option Addr} {es : List RE} {X0 X : World} (h : WrX B T ob es X0 X) {b : Nat} (hb : T ≤ b) (j : Nat) : X.cell? ⟨b, j, none⟩ = X0.cell? ⟨b, j, none⟩ := cell_heap (h.out b (.inr hb)) j
theorem WrX.below {B T : Nat} {ob : Option Addr} {es : List RE} {V X0 X : World} (h : WrX B T ob es X0 X) (hb : Below V.heap.size V X0) (hB : V.heap.size ≤ B) : Below V.heap.size V X :=
  hb.trans ⟨h.fr.1, h.fr.2.1, h.fr.2.2.1, by rw [h.fr.2.2.2]; exact Nat.le_refl _, fun k hk => h.out k (.inl (by omega))⟩
/-- The ward that New made is not touched by it. -/
theorem WrX.ward {B T : Nat} {ob : Option Addr} {es : List RE} {p : POL} {g gm : Nat} {P : PV} {w w' X0 X : World} (h : WrX B T ob es X0 X) (hN : NX p g gm P w w') (hT : T ≤ w.heap.size) (hb : Below w'.heap.size w' X0) : WX g gm P newS (.slice none 0 0) X := by
  have hw := hN.ward
  have hg := hw.glt
  have hm := hw.mlt
  have hbd := hw.bd
  obtain ⟨g1, g2, g3⟩ := hN.gb
  have hk : ∀ k, w.heap.size ≤ k → k < w'.heap.size → X.heap[k]? = w'.heap[k]? := fun k h1 h2 => (h.out k (.inr (by omega))).trans (hb.block k h2)
  refine ⟨(hk g (by omega) hg).trans hw.row, (hk gm (by omega) hm).trans hw.mem, World.ownsRow_nil _ _ _ _, hw.ne, fun k hk => (by cases hk), (by rw [h.fr.2.2.2]; exact Nat.le_trans hbd hb.size), fun U hU hs => hN.pin U (fun k h1 h2 => ?_) hs⟩
  exact (hU k h2 (by omega) (by omega) (fun e => by cases e)).trans (hk k h1 (by omega))
/-- Both wards at the start. -/
theorem BW.start {p : POL} {g gm : Nat} {P : PV} {V w w' X Y : World} {oa : Option Addr} {cap : Nat} (hN : NX p g gm P w w') (hw : WX g gm P newS (.slice none 0 0) X) (hs : w'.heap.size ≤ X.heap.size) (hV : Below V.heap.size V X) (hVw : V.heap.size ≤ w.heap.size)
    (hd : DX (X.heap.size + 1) ⟨p, oa, cap, V.heap.size⟩ newD (fun _ => .slice none 0 0) (.slice none 0 0) Y) (hb : Below X.heap.size X Y) : BW p V g gm P (.slice none 0 0) newS 0 (X.heap.size + 1) ⟨p, oa, cap, V.heap.size⟩ (fun _ => .slice none 0 0) (.slice none 0 0) newD Y := by
  obtain ⟨g1, g2, g3⟩ := hN.gb
  have hg := hN.ward.glt
  have hm := hN.ward.mlt
  have hbd := hN.ward.bd
  refine ⟨hw.on hb, hN.pol, rfl, new_inv p, Nat.le_refl _, below_next hV hb, hd, ⟨Nat.le_refl _, by omega⟩, fun k hk => ?_, fun k hk => ?_, fun k hk hk2 => ?_⟩
  · rcases hk with rfl | rfl | hk
    · exact g1
    · exact g2
    · cases hk
  · rcases hk with rfl | hk | ⟨_, _, hk⟩
    · omega
    · cases hk
    · cases hk
  · rcases hk2 with rfl | hk2 | ⟨_, _, hk2⟩
    · rcases hk with hk | hk | hk
      · omega
      · omega
      · cases hk
    · cases hk2
    · cases hk2
end Go.Proofs.YtklibmijiecbfaaGreat

/- The document's PolicyFault. -/
namespace Go.Proofs.YtklibmijiecbfaaGreat
open Go.RowKit Go.Sort

set_option maxHeartbeats 1000000 in
theorem dactF_any (a : ACT) (w : World) : Calls Tryz.prog 22 #[actV a] w fun e w' => e = .returned (.int .i64 (actF a)) ∧ Below w.heap.size w w' := by
  obtain ⟨k, e⟩ := a
  have HF := hide (show actF ⟨k, e⟩ = if k ≠ 1 ∧ k ≠ 2 ∧ k ≠ 3 then 3 else if k ≠ 2 ∧ e ≠ 0 then 3 else if k = 2 ∧ (e < 1 ∨ 255 < e) then 1 else 0 from rfl)
  obtain ⟨f, hf⟩ : ∃ f, f = actF ⟨k, e⟩ := ⟨_, rfl⟩
  rw [← hf] at HF ⊢
  clear hf
  unfold actV
  simp only
  by_cases h2 : k = 2
  · subst h2
    have HF2 := hide (show f = if e < 1 ∨ 255 < e then 1 else 0 by rw [HF.out, if_neg (by omega), if_neg (by omega)]; simp)
    clear HF
    by_cases h1 : e < 1
    · have HF3 := hide (show (f : Int) = 1 by rw [HF2.out, if_pos (by omega)]; rfl)
      clear HF2
      go_enter Tryz.func22, Tryz.ntmps22
      go_wp2
      go_ret
      exact ⟨by rw [HF3.out]; rfl, box_below _ _⟩
    · by_cases h5 : 255 < e
      · have HF3 := hide (show (f : Int) = 1 by rw [HF2.out, if_pos (by omega)]; rfl)
        clear HF2
        go_enter Tryz.func22, Tryz.ntmps22
        go_wp2
        go_ret
        exact ⟨by rw [HF3.out]; rfl, box_below _ _⟩
      · have HF3 := hide (show (f : Int) = 0 by rw [HF2.out, if_neg (by omega)]; rfl)
        clear HF2
        go_enter Tryz.func22, Tryz.ntmps22
        go_wp2
        go_ret
        exact ⟨by rw [HF3.out]; rfl, box_below _ _⟩
  · by_cases h0 : e = 0
    · subst h0
      by_cases h1 : k = 1
      · subst h1
        have HF3 := hide (show (f : Int) = 0 by rw [HF.out]; rfl)
        clear HF
        go_enter Tryz.func22, Tryz.ntmps22
        go_wp2
        go_ret
        exact ⟨by rw [HF3.out]; rfl, box_below _ _⟩
      · by_cases h3 : k = 3
        · subst h3
          have HF3 := hide (show (f : Int) = 0 by rw [HF.out]; rfl)
          clear HF
          go_enter Tryz.func22, Tryz.ntmps22
          go_wp2
          go_ret
          exact ⟨by rw [HF3.out]; rfl, box_below _ _⟩
        · have HF3 := hide (show (f : Int) = 3 by rw [HF.out, if_pos ⟨h1, h2, h3⟩]; rfl)
          clear HF
          go_enter Tryz.func22, Tryz.ntmps22
          go_wp2
          go_ret
          exact ⟨by rw [HF3.out]; rfl, box_below _ _⟩
    · have HF3 := hide (show (f : Int) = 3 by
        rw [HF.out]
        by_cases h : k ≠ 1 ∧ k ≠ 2 ∧ k ≠ 3
        · rw [if_pos h]; rfl
        · rw [if_neg h, if_pos ⟨h2, h0⟩]; rfl)
      clear HF
      go_enter Tryz.func22, Tryz.ntmps22
      go_wp2
      all_goals
        go_ret
        exact ⟨by rw [HF3.out]; rfl, box_below _ _⟩

theorem dglobF_any (p : ByteArray) (w : World) : Calls Tryz.prog 45 #[.string p] w fun e w' => e = .returned (.int .i64 (globF p)) ∧ Below w.heap.size w w' := by
  by_cases h : 24 < p.size
  · have HE := hide (show (globF p : Int) = 2 by
      unfold globF Gl.parseR
      rw [if_pos h]
      rfl)
    go_enter Tryz.func45, Tryz.ntmps45
    go_wp2
    go_ret
    exact ⟨by rw [HE.out]; rfl, Below.refl _ _⟩
  · refine (Gl.globFault_any p (by omega) w).mono ?_
    rintro e w' ⟨rfl, hb⟩
    refine ⟨?_, hb⟩
    unfold globF Gl.faultR
    cases hp : Gl.parseR p with
    | inr ps => rfl
    | inl n => rfl

theorem dcondF_bound (nr : Int) (c : CD) (w : World) (h : c.arg < 0 ∨ 3 < c.arg ∨ c.op < 1 ∨ 9 < c.op) : Calls Tryz.prog 23 #[.int .i64 nr, condV c] w fun e w' => e = .returned (.int .i64 1) ∧ Below w.heap.size w w' := by
  obtain ⟨arg, op, v, m, g, ⟨ip, b, lo, hi⟩⟩ := c
  unfold condV
  simp only at h ⊢
  go_enter Tryz.func23, Tryz.ntmps23
  go_wp2
  all_goals first
    | omega
    | (go_ret
       exact ⟨rfl, box_below _ _⟩)

set_option maxHeartbeats 4000000 in
set_option maxRecDepth 100000 in
theorem dcondF_kind (nr a : Nat) (hnr : nr < 9) (ha : a ≤ 3) (op : Int) (v m : Nat) (g : ByteArray) (ip : Nat) (b lo hi : Int) (h1 : ¬ op < 1) (h9 : ¬ 9 < op) (w : World) (h : kindAt nr a ≠ kindOp op) :
    Calls Tryz.prog 23 #[.int .i64 nr, condV ⟨a, op, v, m, g, ⟨ip, b, lo, hi⟩⟩] w fun e w' => e = .returned (.int .i64 3) ∧ Below w.heap.size w w' := by
  have HK := fun X => dkind_any nr a hnr (by omega) X
  obtain ⟨ka, hka⟩ : ∃ k, k = kindAt nr a := ⟨_, rfl⟩
  rw [← hka] at HK h
  clear hka
  unfold condV
  simp only
  have i1 : ¬ (a : Int) < 0 := by omega
  have i2 : ¬ 3 < (a : Int) := by omega
  by_cases h8 : op = 8
  · subst h8
    have hne : ¬ (ka : Int) = 2 := by unfold kindOp at h; simp at h; omega
    have hnb : ((ka : Int) != 2) = true := by simpa using hne
    go_enter Tryz.func23, Tryz.ntmps23
    go_wp2_with (go_at_call 44; refine (HK _).mono ?_; rintro e X ⟨rfl, rfl⟩)
    go_ret
    exact ⟨rfl, below_next (box_below _ _) (box_below _ _)⟩
  by_cases h9 : op = 9
  · subst h9
    have hne : ¬ (ka : Int) = 3 := by unfold kindOp at h; simp at h; omega
    have hnb : ((ka : Int) != 3) = true := by simpa using hne
    go_enter Tryz.func23, Tryz.ntmps23
    go_wp2_with (go_at_call 44; refine (HK _).mono ?_; rintro e X ⟨rfl, rfl⟩)
    go_ret
    exact ⟨rfl, below_next (box_below _ _) (box_below _ _)⟩
  · have hne : ¬ (ka : Int) = 1 := by unfold kindOp at h; rw [if_neg h8, if_neg h9] at h; omega
    have hnb : ((ka : Int) != 1) = true := by simpa using hne
    go_enter Tryz.func23, Tryz.ntmps23
    go_wp2_with (go_at_call 44; refine (HK _).mono ?_; rintro e X ⟨rfl, rfl⟩)
    go_ret
    exact ⟨rfl, below_next (box_below _ _) (box_below _ _)⟩
end Go.Proofs.YtklibmijiecbfaaGreat

/- The document's condFault where the kind is right, and PolicyFault. -/
namespace Go.Proofs.YtklibmijiecbfaaGreat
open Go.RowKit Go.Sort

set_option maxHeartbeats 8000000 in
set_option maxRecDepth 100000 in
theorem dcondF_num (nr a : Nat) (hnr : nr < 9) (ha : a ≤ 3) (op : Int) (h1 : ¬ op < 1) (h6 : ¬ 6 < op) (v m : Nat) (g : ByteArray) (ip : Nat) (b lo hi : Int) (w : World) (hk : kindAt nr a = 1) (f : Nat) (hu3 : unusedP ⟨a, op, v, m, g, ⟨ip, b, lo, hi⟩⟩ → f = 3) (hu0 : ¬ unusedP ⟨a, op, v, m, g, ⟨ip, b, lo, hi⟩⟩ → f = 0) :
    Calls Tryz.prog 23 #[.int .i64 nr, condV ⟨a, op, v, m, g, ⟨ip, b, lo, hi⟩⟩] w fun e w' => e = .returned (.int .i64 f) ∧ Below w.heap.size w w' := by
  have HK := fun X => dkind_any nr a hnr (by omega) X
  rw [hk] at HK
  have HU3 := hide hu3
  have HU0 := hide hu0
  clear hk hu3 hu0 hnr
  unfold condV
  simp only
  have i1 : ¬ (a : Int) < 0 := by omega
  have i2 : ¬ 3 < (a : Int) := by omega
  have n7 : ¬ op = 7 := by omega
  have n8 : ¬ op = 8 := by omega
  have n9 : ¬ op = 9 := by omega
  have b7 : (op != 7) = true := by simpa using n7
  have b8 : (op != 8) = true := by simpa using n8
  have b9 : (op != 9) = true := by simpa using n9
  have m7 : ¬ 7 < op := by omega
  have m9 : ¬ 9 < op := by omega
  by_cases hm : m = 0
  · subst hm
    by_cases hv : v = 0
    · subst hv
      by_cases hg : g.size = 0
      · have pg : ¬ (0 : Int) < g.size := by omega
        by_cases hip : ip = 0
        · subst hip
          by_cases hb : b = 0
          · subst hb
            by_cases hlo : lo = 0
            · subst hlo
              by_cases hhi : hi = 0
              · subst hhi
                have HF := hide (show (f : Int) = 0 by rw [HU0.out (by unfold unusedP netZ; first | (simp only; omega) | (simp; omega) | simp_all)]; rfl)
                clear HU3 HU0
                go_enter Tryz.func23, Tryz.ntmps23
                go_wp2_with (first
                  | (go_at_call 44; refine (HK _).mono ?_; rintro e X ⟨rfl, rfl⟩))
                all_goals
                  go_ret
                  exact ⟨by rw [HF.out]; rfl, below_next (box_below _ _) (box_below _ _)⟩
              · have phi : ¬ (hi : Int) = 0 := by omega
                have HF := hide (show (f : Int) = 3 by rw [HU3.out (by unfold unusedP netZ; first | (simp only; omega) | (simp; omega) | simp_all)]; rfl)
                clear HU3 HU0
                go_enter Tryz.func23, Tryz.ntmps23
                go_wp2_with (first
                  | (go_at_call 44; refine (HK _).mono ?_; rintro e X ⟨rfl, rfl⟩))
                all_goals
                  go_ret
                  exact ⟨by rw [HF.out]; rfl, below_next (box_below _ _) (box_below _ _)⟩
            · have plo : ¬ (lo : Int) = 0 := by omega
              have HF := hide (show (f : Int) = 3 by rw [HU3.out (by unfold unusedP netZ; first | (simp only; omega) | (simp; omega) | simp_all)]; rfl)
              clear HU3 HU0
              go_enter Tryz.func23, Tryz.ntmps23
              go_wp2_with (first
                | (go_at_call 44; refine (HK _).mono ?_; rintro e X ⟨rfl, rfl⟩))
              all_goals
                go_ret
                exact ⟨by rw [HF.out]; rfl, below_next (box_below _ _) (box_below _ _)⟩
          · have pb : ¬ (b : Int) = 0 := by omega
            have HF := hide (show (f : Int) = 3 by rw [HU3.out (by unfold unusedP netZ; first | (simp only; omega) | (simp; omega) | simp_all)]; rfl)
            clear HU3 HU0
            go_enter Tryz.func23, Tryz.ntmps23
            go_wp2_with (first
              | (go_at_call 44; refine (HK _).mono ?_; rintro e X ⟨rfl, rfl⟩))
            all_goals
              go_ret
              exact ⟨by rw [HF.out]; rfl, below_next (box_below _ _) (box_below _ _)⟩
        · have pip : ¬ (ip : Int) = 0 := by omega
          have HF := hide (show (f : Int) = 3 by rw [HU3.out (by unfold unusedP netZ; first | (simp only; omega) | (simp; omega) | simp_all)]; rfl)
          clear HU3 HU0
          go_enter Tryz.func23, Tryz.ntmps23
          go_wp2_with (first
            | (go_at_call 44; refine (HK _).mono ?_; rintro e X ⟨rfl, rfl⟩))
          all_goals
            go_ret
            exact ⟨by rw [HF.out]; rfl, below_next (box_below _ _) (box_below _ _)⟩
      · have pg : (0 : Int) < g.size := by omega
        have HF := hide (show (f : Int) = 3 by rw [HU3.out (by unfold unusedP netZ; first | (simp only; omega) | (simp; omega) | simp_all)]; rfl)
        clear HU3 HU0
        go_enter Tryz.func23, Tryz.ntmps23
        go_wp2_with (first
          | (go_at_call 44; refine (HK _).mono ?_; rintro e X ⟨rfl, rfl⟩))
        all_goals
          go_ret
          exact ⟨by rw [HF.out]; rfl, below_next (box_below _ _) (box_below _ _)⟩
    · have pv : (0 : Int) < v := by omega
      by_cases hg : g.size = 0
      · have pg : ¬ (0 : Int) < g.size := by omega
        by_cases hip : ip = 0
        · subst hip
          by_cases hb : b = 0
          · subst hb
            by_cases hlo : lo = 0
            · subst hlo
              by_cases hhi : hi = 0
              · subst hhi
                have HF := hide (show (f : Int) = 0 by rw [HU0.out (by unfold unusedP netZ; first | (simp only; omega) | (simp; omega) | simp_all)]; rfl)
                clear HU3 HU0
                go_enter Tryz.func23, Tryz.ntmps23
                go_wp2_with (first
                  | (go_at_call 44; refine (HK _).mono ?_; rintro e X ⟨rfl, rfl⟩))
                all_goals
                  go_ret
                  exact ⟨by rw [HF.out]; rfl, below_next (box_below _ _) (box_below _ _)⟩
              · have phi : ¬ (hi : Int) = 0 := by omega
                have HF := hide (show (f : Int) = 3 by rw [HU3.out (by unfold unusedP netZ; first | (simp only; omega) | (simp; omega) | simp_all)]; rfl)
                clear HU3 HU0
                go_enter Tryz.func23, Tryz.ntmps23
                go_wp2_with (first
                  | (go_at_call 44; refine (HK _).mono ?_; rintro e X ⟨rfl, rfl⟩))
                all_goals
                  go_ret
                  exact ⟨by rw [HF.out]; rfl, below_next (box_below _ _) (box_below _ _)⟩
            · have plo : ¬ (lo : Int) = 0 := by omega
              have HF := hide (show (f : Int) = 3 by rw [HU3.out (by unfold unusedP netZ; first | (simp only; omega) | (simp; omega) | simp_all)]; rfl)
              clear HU3 HU0
              go_enter Tryz.func23, Tryz.ntmps23
              go_wp2_with (first
                | (go_at_call 44; refine (HK _).mono ?_; rintro e X ⟨rfl, rfl⟩))
              all_goals
                go_ret
                exact ⟨by rw [HF.out]; rfl, below_next (box_below _ _) (box_below _ _)⟩
          · have pb : ¬ (b : Int) = 0 := by omega
            have HF := hide (show (f : Int) = 3 by rw [HU3.out (by unfold unusedP netZ; first | (simp only; omega) | (simp; omega) | simp_all)]; rfl)
            clear HU3 HU0
            go_enter Tryz.func23, Tryz.ntmps23
            go_wp2_with (first
              | (go_at_call 44; refine (HK _).mono ?_; rintro e X ⟨rfl, rfl⟩))
            all_goals
              go_ret
              exact ⟨by rw [HF.out]; rfl, below_next (box_below _ _) (box_below _ _)⟩
        · have pip : ¬ (ip : Int) = 0 := by omega
          have HF := hide (show (f : Int) = 3 by rw [HU3.out (by unfold unusedP netZ; first | (simp only; omega) | (simp; omega) | simp_all)]; rfl)
          clear HU3 HU0
          go_enter Tryz.func23, Tryz.ntmps23
          go_wp2_with (first
            | (go_at_call 44; refine (HK _).mono ?_; rintro e X ⟨rfl, rfl⟩))
          all_goals
            go_ret
            exact ⟨by rw [HF.out]; rfl, below_next (box_below _ _) (box_below _ _)⟩
      · have pg : (0 : Int) < g.size := by omega
        have HF := hide (show (f : Int) = 3 by rw [HU3.out (by unfold unusedP netZ; first | (simp only; omega) | (simp; omega) | simp_all)]; rfl)
        clear HU3 HU0
        go_enter Tryz.func23, Tryz.ntmps23
        go_wp2_with (first
          | (go_at_call 44; refine (HK _).mono ?_; rintro e X ⟨rfl, rfl⟩))
        all_goals
          go_ret
          exact ⟨by rw [HF.out]; rfl, below_next (box_below _ _) (box_below _ _)⟩
  · have pm : (0 : Int) < m := by omega
    have HF := hide (show (f : Int) = 3 by rw [HU3.out (by unfold unusedP netZ; first | (simp only; omega) | (simp; omega) | simp_all)]; rfl)
    clear HU3 HU0
    go_enter Tryz.func23, Tryz.ntmps23
    go_wp2_with (first
      | (go_at_call 44; refine (HK _).mono ?_; rintro e X ⟨rfl, rfl⟩))
    all_goals
      go_ret
      exact ⟨by rw [HF.out]; rfl, below_next (box_below _ _) (box_below _ _)⟩

set_option maxHeartbeats 8000000 in
set_option maxRecDepth 100000 in
theorem dcondF_mask (nr a : Nat) (hnr : nr < 9) (ha : a ≤ 3) (v m : Nat) (g : ByteArray) (ip : Nat) (b lo hi : Int) (w : World) (hk : kindAt nr a = 1) (f : Nat) (hu3 : unusedP ⟨a, 7, v, m, g, ⟨ip, b, lo, hi⟩⟩ → f = 3) (hu0 : ¬ unusedP ⟨a, 7, v, m, g, ⟨ip, b, lo, hi⟩⟩ → f = 0) :
    Calls Tryz.prog 23 #[.int .i64 nr, condV ⟨a, 7, v, m, g, ⟨ip, b, lo, hi⟩⟩] w fun e w' => e = .returned (.int .i64 f) ∧ Below w.heap.size w w' := by
  have HK := fun X => dkind_any nr a hnr (by omega) X
  rw [hk] at HK
  have HU3 := hide hu3
  have HU0 := hide hu0
  clear hk hu3 hu0 hnr
  unfold condV
  simp only
  have i1 : ¬ (a : Int) < 0 := by omega
  have i2 : ¬ 3 < (a : Int) := by omega
  by_cases hm : m = 0
  · subst hm
    by_cases hv : v = 0
    · subst hv
      by_cases hg : g.size = 0
      · have pg : ¬ (0 : Int) < g.size := by omega
        by_cases hip : ip = 0
        · subst hip
          by_cases hb : b = 0
          · subst hb
            by_cases hlo : lo = 0
            · subst hlo
              by_cases hhi : hi = 0
              · subst hhi
                have HF := hide (show (f : Int) = 0 by rw [HU0.out (by unfold unusedP netZ; first | (simp only; omega) | (simp; omega) | simp_all)]; rfl)
                clear HU3 HU0
                go_enter Tryz.func23, Tryz.ntmps23
                go_wp2_with (first
                  | (go_at_call 44; refine (HK _).mono ?_; rintro e X ⟨rfl, rfl⟩))
                all_goals
                  go_ret
                  exact ⟨by rw [HF.out]; rfl, below_next (box_below _ _) (box_below _ _)⟩
              · have phi : ¬ (hi : Int) = 0 := by omega
                have HF := hide (show (f : Int) = 3 by rw [HU3.out (by unfold unusedP netZ; first | (simp only; omega) | (simp; omega) | simp_all)]; rfl)
                clear HU3 HU0
                go_enter Tryz.func23, Tryz.ntmps23
                go_wp2_with (first
                  | (go_at_call 44; refine (HK _).mono ?_; rintro e X ⟨rfl, rfl⟩))
                all_goals
                  go_ret
                  exact ⟨by rw [HF.out]; rfl, below_next (box_below _ _) (box_below _ _)⟩
            · have plo : ¬ (lo : Int) = 0 := by omega
              have HF := hide (show (f : Int) = 3 by rw [HU3.out (by unfold unusedP netZ; first | (simp only; omega) | (simp; omega) | simp_all)]; rfl)
              clear HU3 HU0
              go_enter Tryz.func23, Tryz.ntmps23
              go_wp2_with (first
                | (go_at_call 44; refine (HK _).mono ?_; rintro e X ⟨rfl, rfl⟩))
              all_goals
                go_ret
                exact ⟨by rw [HF.out]; rfl, below_next (box_below _ _) (box_below _ _)⟩
          · have pb : ¬ (b : Int) = 0 := by omega
            have HF := hide (show (f : Int) = 3 by rw [HU3.out (by unfold unusedP netZ; first | (simp only; omega) | (simp; omega) | simp_all)]; rfl)
            clear HU3 HU0
            go_enter Tryz.func23, Tryz.ntmps23
            go_wp2_with (first
              | (go_at_call 44; refine (HK _).mono ?_; rintro e X ⟨rfl, rfl⟩))
            all_goals
              go_ret
              exact ⟨by rw [HF.out]; rfl, below_next (box_below _ _) (box_below _ _)⟩
        · have pip : ¬ (ip : Int) = 0 := by omega
          have HF := hide (show (f : Int) = 3 by rw [HU3.out (by unfold unusedP netZ; first | (simp only; omega) | (simp; omega) | simp_all)]; rfl)
          clear HU3 HU0
          go_enter Tryz.func23, Tryz.ntmps23
          go_wp2_with (first
            | (go_at_call 44; refine (HK _).mono ?_; rintro e X ⟨rfl, rfl⟩))
          all_goals
            go_ret
            exact ⟨by rw [HF.out]; rfl, below_next (box_below _ _) (box_below _ _)⟩
      · have pg : (0 : Int) < g.size := by omega
        have HF := hide (show (f : Int) = 3 by rw [HU3.out (by unfold unusedP netZ; first | (simp only; omega) | (simp; omega) | simp_all)]; rfl)
        clear HU3 HU0
        go_enter Tryz.func23, Tryz.ntmps23
        go_wp2_with (first
          | (go_at_call 44; refine (HK _).mono ?_; rintro e X ⟨rfl, rfl⟩))
        all_goals
          go_ret
          exact ⟨by rw [HF.out]; rfl, below_next (box_below _ _) (box_below _ _)⟩
    · have pv : (0 : Int) < v := by omega
      by_cases hg : g.size = 0
      · have pg : ¬ (0 : Int) < g.size := by omega
        by_cases hip : ip = 0
        · subst hip
          by_cases hb : b = 0
          · subst hb
            by_cases hlo : lo = 0
            · subst hlo
              by_cases hhi : hi = 0
              · subst hhi
                have HF := hide (show (f : Int) = 0 by rw [HU0.out (by unfold unusedP netZ; first | (simp only; omega) | (simp; omega) | simp_all)]; rfl)
                clear HU3 HU0
                go_enter Tryz.func23, Tryz.ntmps23
                go_wp2_with (first
                  | (go_at_call 44; refine (HK _).mono ?_; rintro e X ⟨rfl, rfl⟩))
                all_goals
                  go_ret
                  exact ⟨by rw [HF.out]; rfl, below_next (box_below _ _) (box_below _ _)⟩
              · have phi : ¬ (hi : Int) = 0 := by omega
                have HF := hide (show (f : Int) = 3 by rw [HU3.out (by unfold unusedP netZ; first | (simp only; omega) | (simp; omega) | simp_all)]; rfl)
                clear HU3 HU0
                go_enter Tryz.func23, Tryz.ntmps23
                go_wp2_with (first
                  | (go_at_call 44; refine (HK _).mono ?_; rintro e X ⟨rfl, rfl⟩))
                all_goals
                  go_ret
                  exact ⟨by rw [HF.out]; rfl, below_next (box_below _ _) (box_below _ _)⟩
            · have plo : ¬ (lo : Int) = 0 := by omega
              have HF := hide (show (f : Int) = 3 by rw [HU3.out (by unfold unusedP netZ; first | (simp only; omega) | (simp; omega) | simp_all)]; rfl)
              clear HU3 HU0
              go_enter Tryz.func23, Tryz.ntmps23
              go_wp2_with (first
                | (go_at_call 44; refine (HK _).mono ?_; rintro e X ⟨rfl, rfl⟩))
              all_goals
                go_ret
                exact ⟨by rw [HF.out]; rfl, below_next (box_below _ _) (box_below _ _)⟩
          · have pb : ¬ (b : Int) = 0 := by omega
            have HF := hide (show (f : Int) = 3 by rw [HU3.out (by unfold unusedP netZ; first | (simp only; omega) | (simp; omega) | simp_all)]; rfl)
            clear HU3 HU0
            go_enter Tryz.func23, Tryz.ntmps23
            go_wp2_with (first
              | (go_at_call 44; refine (HK _).mono ?_; rintro e X ⟨rfl, rfl⟩))
            all_goals
              go_ret
              exact ⟨by rw [HF.out]; rfl, below_next (box_below _ _) (box_below _ _)⟩
        · have pip : ¬ (ip : Int) = 0 := by omega
          have HF := hide (show (f : Int) = 3 by rw [HU3.out (by unfold unusedP netZ; first | (simp only; omega) | (simp; omega) | simp_all)]; rfl)
          clear HU3 HU0
          go_enter Tryz.func23, Tryz.ntmps23
          go_wp2_with (first
            | (go_at_call 44; refine (HK _).mono ?_; rintro e X ⟨rfl, rfl⟩))
          all_goals
            go_ret
            exact ⟨by rw [HF.out]; rfl, below_next (box_below _ _) (box_below _ _)⟩
      · have pg : (0 : Int) < g.size := by omega
        have HF := hide (show (f : Int) = 3 by rw [HU3.out (by unfold unusedP netZ; first | (simp only; omega) | (simp; omega) | simp_all)]; rfl)
        clear HU3 HU0
        go_enter Tryz.func23, Tryz.ntmps23
        go_wp2_with (first
          | (go_at_call 44; refine (HK _).mono ?_; rintro e X ⟨rfl, rfl⟩))
        all_goals
          go_ret
          exact ⟨by rw [HF.out]; rfl, below_next (box_below _ _) (box_below _ _)⟩
  · have pm : (0 : Int) < m := by omega
    by_cases hv : v = 0
    · subst hv
      by_cases hg : g.size = 0
      · have pg : ¬ (0 : Int) < g.size := by omega
        by_cases hip : ip = 0
        · subst hip
          by_cases hb : b = 0
          · subst hb
            by_cases hlo : lo = 0
            · subst hlo
              by_cases hhi : hi = 0
              · subst hhi
                have HF := hide (show (f : Int) = 0 by rw [HU0.out (by unfold unusedP netZ; first | (simp only; omega) | (simp; omega) | simp_all)]; rfl)
                clear HU3 HU0
                go_enter Tryz.func23, Tryz.ntmps23
                go_wp2_with (first
                  | (go_at_call 44; refine (HK _).mono ?_; rintro e X ⟨rfl, rfl⟩))
                all_goals
                  go_ret
                  exact ⟨by rw [HF.out]; rfl, below_next (box_below _ _) (box_below _ _)⟩
              · have phi : ¬ (hi : Int) = 0 := by omega
                have HF := hide (show (f : Int) = 3 by rw [HU3.out (by unfold unusedP netZ; first | (simp only; omega) | (simp; omega) | simp_all)]; rfl)
                clear HU3 HU0
                go_enter Tryz.func23, Tryz.ntmps23
                go_wp2_with (first
                  | (go_at_call 44; refine (HK _).mono ?_; rintro e X ⟨rfl, rfl⟩))
                all_goals
                  go_ret
                  exact ⟨by rw [HF.out]; rfl, below_next (box_below _ _) (box_below _ _)⟩
            · have plo : ¬ (lo : Int) = 0 := by omega
              have HF := hide (show (f : Int) = 3 by rw [HU3.out (by unfold unusedP netZ; first | (simp only; omega) | (simp; omega) | simp_all)]; rfl)
              clear HU3 HU0
              go_enter Tryz.func23, Tryz.ntmps23
              go_wp2_with (first
                | (go_at_call 44; refine (HK _).mono ?_; rintro e X ⟨rfl, rfl⟩))
              all_goals
                go_ret
                exact ⟨by rw [HF.out]; rfl, below_next (box_below _ _) (box_below _ _)⟩
          · have pb : ¬ (b : Int) = 0 := by omega
            have HF := hide (show (f : Int) = 3 by rw [HU3.out (by unfold unusedP netZ; first | (simp only; omega) | (simp; omega) | simp_all)]; rfl)
            clear HU3 HU0
            go_enter Tryz.func23, Tryz.ntmps23
            go_wp2_with (first
              | (go_at_call 44; refine (HK _).mono ?_; rintro e X ⟨rfl, rfl⟩))
            all_goals
              go_ret
              exact ⟨by rw [HF.out]; rfl, below_next (box_below _ _) (box_below _ _)⟩
        · have pip : ¬ (ip : Int) = 0 := by omega
          have HF := hide (show (f : Int) = 3 by rw [HU3.out (by unfold unusedP netZ; first | (simp only; omega) | (simp; omega) | simp_all)]; rfl)
          clear HU3 HU0
          go_enter Tryz.func23, Tryz.ntmps23
          go_wp2_with (first
            | (go_at_call 44; refine (HK _).mono ?_; rintro e X ⟨rfl, rfl⟩))
          all_goals
            go_ret
            exact ⟨by rw [HF.out]; rfl, below_next (box_below _ _) (box_below _ _)⟩
      · have pg : (0 : Int) < g.size := by omega
        have HF := hide (show (f : Int) = 3 by rw [HU3.out (by unfold unusedP netZ; first | (simp only; omega) | (simp; omega) | simp_all)]; rfl)
        clear HU3 HU0
        go_enter Tryz.func23, Tryz.ntmps23
        go_wp2_with (first
          | (go_at_call 44; refine (HK _).mono ?_; rintro e X ⟨rfl, rfl⟩))
        all_goals
          go_ret
          exact ⟨by rw [HF.out]; rfl, below_next (box_below _ _) (box_below _ _)⟩
    · have pv : (0 : Int) < v := by omega
      by_cases hg : g.size = 0
      · have pg : ¬ (0 : Int) < g.size := by omega
        by_cases hip : ip = 0
        · subst hip
          by_cases hb : b = 0
          · subst hb
            by_cases hlo : lo = 0
            · subst hlo
              by_cases hhi : hi = 0
              · subst hhi
                have HF := hide (show (f : Int) = 0 by rw [HU0.out (by unfold unusedP netZ; first | (simp only; omega) | (simp; omega) | simp_all)]; rfl)
                clear HU3 HU0
                go_enter Tryz.func23, Tryz.ntmps23
                go_wp2_with (first
                  | (go_at_call 44; refine (HK _).mono ?_; rintro e X ⟨rfl, rfl⟩))
                all_goals
                  go_ret
                  exact ⟨by rw [HF.out]; rfl, below_next (box_below _ _) (box_below _ _)⟩
              · have phi : ¬ (hi : Int) = 0 := by omega
                have HF := hide (show (f : Int) = 3 by rw [HU3.out (by unfold unusedP netZ; first | (simp only; omega) | (simp; omega) | simp_all)]; rfl)
                clear HU3 HU0
                go_enter Tryz.func23, Tryz.ntmps23
                go_wp2_with (first
                  | (go_at_call 44; refine (HK _).mono ?_; rintro e X ⟨rfl, rfl⟩))
                all_goals
                  go_ret
                  exact ⟨by rw [HF.out]; rfl, below_next (box_below _ _) (box_below _ _)⟩
            · have plo : ¬ (lo : Int) = 0 := by omega
              have HF := hide (show (f : Int) = 3 by rw [HU3.out (by unfold unusedP netZ; first | (simp only; omega) | (simp; omega) | simp_all)]; rfl)
              clear HU3 HU0
              go_enter Tryz.func23, Tryz.ntmps23
              go_wp2_with (first
                | (go_at_call 44; refine (HK _).mono ?_; rintro e X ⟨rfl, rfl⟩))
              all_goals
                go_ret
                exact ⟨by rw [HF.out]; rfl, below_next (box_below _ _) (box_below _ _)⟩
          · have pb : ¬ (b : Int) = 0 := by omega
            have HF := hide (show (f : Int) = 3 by rw [HU3.out (by unfold unusedP netZ; first | (simp only; omega) | (simp; omega) | simp_all)]; rfl)
            clear HU3 HU0
            go_enter Tryz.func23, Tryz.ntmps23
            go_wp2_with (first
              | (go_at_call 44; refine (HK _).mono ?_; rintro e X ⟨rfl, rfl⟩))
            all_goals
              go_ret
              exact ⟨by rw [HF.out]; rfl, below_next (box_below _ _) (box_below _ _)⟩
        · have pip : ¬ (ip : Int) = 0 := by omega
          have HF := hide (show (f : Int) = 3 by rw [HU3.out (by unfold unusedP netZ; first | (simp only; omega) | (simp; omega) | simp_all)]; rfl)
          clear HU3 HU0
          go_enter Tryz.func23, Tryz.ntmps23
          go_wp2_with (first
            | (go_at_call 44; refine (HK _).mono ?_; rintro e X ⟨rfl, rfl⟩))
          all_goals
            go_ret
            exact ⟨by rw [HF.out]; rfl, below_next (box_below _ _) (box_below _ _)⟩
      · have pg : (0 : Int) < g.size := by omega
        have HF := hide (show (f : Int) = 3 by rw [HU3.out (by unfold unusedP netZ; first | (simp only; omega) | (simp; omega) | simp_all)]; rfl)
        clear HU3 HU0
        go_enter Tryz.func23, Tryz.ntmps23
        go_wp2_with (first
          | (go_at_call 44; refine (HK _).mono ?_; rintro e X ⟨rfl, rfl⟩))
        all_goals
          go_ret
          exact ⟨by rw [HF.out]; rfl, below_next (box_below _ _) (box_below _ _)⟩

set_option maxHeartbeats 8000000 in
set_option maxRecDepth 100000 in
theorem dcondF_like (nr a : Nat) (hnr : nr < 9) (ha : a ≤ 3) (v m : Nat) (g : ByteArray) (ip : Nat) (b lo hi : Int) (w : World) (hk : kindAt nr a = 2) (f : Nat) (hu3 : unusedP ⟨a, 8, v, m, g, ⟨ip, b, lo, hi⟩⟩ → f = 3) (hu0 : ¬ unusedP ⟨a, 8, v, m, g, ⟨ip, b, lo, hi⟩⟩ → f = globF g) :
    Calls Tryz.prog 23 #[.int .i64 nr, condV ⟨a, 8, v, m, g, ⟨ip, b, lo, hi⟩⟩] w fun e w' => e = .returned (.int .i64 f) ∧ Below w.heap.size w w' := by
  have HK := fun X => dkind_any nr a hnr (by omega) X
  rw [hk] at HK
  have HU3 := hide hu3
  have HU0 := hide hu0
  clear hk hu3 hu0 hnr
  unfold condV
  simp only
  have i1 : ¬ (a : Int) < 0 := by omega
  have i2 : ¬ 3 < (a : Int) := by omega
  by_cases hm : m = 0
  · subst hm
    by_cases hv : v = 0
    · subst hv
      by_cases hg : g.size = 0
      · have pg : ¬ (0 : Int) < g.size := by omega
        by_cases hip : ip = 0
        · subst hip
          by_cases hb : b = 0
          · subst hb
            by_cases hlo : lo = 0
            · subst hlo
              by_cases hhi : hi = 0
              · subst hhi
                have HF := hide (HU0.out (by unfold unusedP netZ; first | (simp only; omega) | (simp; omega) | simp_all))
                have HG := fun X => dglobF_any g X
                clear HU3 HU0
                go_enter Tryz.func23, Tryz.ntmps23
                go_wp2_with (first
                  | (go_at_call 44; refine (HK _).mono ?_; rintro e X ⟨rfl, rfl⟩)
                  | (go_at_call 45; refine (HG _).mono ?_; rintro e X ⟨rfl, hX⟩))
                all_goals
                  go_ret
                  exact ⟨by rw [HF.out]; rfl, below_next (below_next (box_below _ _) (box_below _ _)) hX⟩
              · have phi : ¬ (hi : Int) = 0 := by omega
                have HF := hide (show (f : Int) = 3 by rw [HU3.out (by unfold unusedP netZ; first | (simp only; omega) | (simp; omega) | simp_all)]; rfl)
                clear HU3 HU0
                go_enter Tryz.func23, Tryz.ntmps23
                go_wp2_with (first
                  | (go_at_call 44; refine (HK _).mono ?_; rintro e X ⟨rfl, rfl⟩))
                all_goals
                  go_ret
                  exact ⟨by rw [HF.out]; rfl, below_next (box_below _ _) (box_below _ _)⟩
            · have plo : ¬ (lo : Int) = 0 := by omega
              have HF := hide (show (f : Int) = 3 by rw [HU3.out (by unfold unusedP netZ; first | (simp only; omega) | (simp; omega) | simp_all)]; rfl)
              clear HU3 HU0
              go_enter Tryz.func23, Tryz.ntmps23
              go_wp2_with (first
                | (go_at_call 44; refine (HK _).mono ?_; rintro e X ⟨rfl, rfl⟩))
              all_goals
                go_ret
                exact ⟨by rw [HF.out]; rfl, below_next (box_below _ _) (box_below _ _)⟩
          · have pb : ¬ (b : Int) = 0 := by omega
            have HF := hide (show (f : Int) = 3 by rw [HU3.out (by unfold unusedP netZ; first | (simp only; omega) | (simp; omega) | simp_all)]; rfl)
            clear HU3 HU0
            go_enter Tryz.func23, Tryz.ntmps23
            go_wp2_with (first
              | (go_at_call 44; refine (HK _).mono ?_; rintro e X ⟨rfl, rfl⟩))
            all_goals
              go_ret
              exact ⟨by rw [HF.out]; rfl, below_next (box_below _ _) (box_below _ _)⟩
        · have pip : ¬ (ip : Int) = 0 := by omega
          have HF := hide (show (f : Int) = 3 by rw [HU3.out (by unfold unusedP netZ; first | (simp only; omega) | (simp; omega) | simp_all)]; rfl)
          clear HU3 HU0
          go_enter Tryz.func23, Tryz.ntmps23
          go_wp2_with (first
            | (go_at_call 44; refine (HK _).mono ?_; rintro e X ⟨rfl, rfl⟩))
          all_goals
            go_ret
            exact ⟨by rw [HF.out]; rfl, below_next (box_below _ _) (box_below _ _)⟩
      · have pg : (0 : Int) < g.size := by omega
        by_cases hip : ip = 0
        · subst hip
          by_cases hb : b = 0
          · subst hb
            by_cases hlo : lo = 0
            · subst hlo
              by_cases hhi : hi = 0
              · subst hhi
                have HF := hide (HU0.out (by unfold unusedP netZ; first | (simp only; omega) | (simp; omega) | simp_all))
                have HG := fun X => dglobF_any g X
                clear HU3 HU0
                go_enter Tryz.func23, Tryz.ntmps23
                go_wp2_with (first
                  | (go_at_call 44; refine (HK _).mono ?_; rintro e X ⟨rfl, rfl⟩)
                  | (go_at_call 45; refine (HG _).mono ?_; rintro e X ⟨rfl, hX⟩))
                all_goals
                  go_ret
                  exact ⟨by rw [HF.out]; rfl, below_next (below_next (box_below _ _) (box_below _ _)) hX⟩
              · have phi : ¬ (hi : Int) = 0 := by omega
                have HF := hide (show (f : Int) = 3 by rw [HU3.out (by unfold unusedP netZ; first | (simp only; omega) | (simp; omega) | simp_all)]; rfl)
                clear HU3 HU0
                go_enter Tryz.func23, Tryz.ntmps23
                go_wp2_with (first
                  | (go_at_call 44; refine (HK _).mono ?_; rintro e X ⟨rfl, rfl⟩))
                all_goals
                  go_ret
                  exact ⟨by rw [HF.out]; rfl, below_next (box_below _ _) (box_below _ _)⟩
            · have plo : ¬ (lo : Int) = 0 := by omega
              have HF := hide (show (f : Int) = 3 by rw [HU3.out (by unfold unusedP netZ; first | (simp only; omega) | (simp; omega) | simp_all)]; rfl)
              clear HU3 HU0
              go_enter Tryz.func23, Tryz.ntmps23
              go_wp2_with (first
                | (go_at_call 44; refine (HK _).mono ?_; rintro e X ⟨rfl, rfl⟩))
              all_goals
                go_ret
                exact ⟨by rw [HF.out]; rfl, below_next (box_below _ _) (box_below _ _)⟩
          · have pb : ¬ (b : Int) = 0 := by omega
            have HF := hide (show (f : Int) = 3 by rw [HU3.out (by unfold unusedP netZ; first | (simp only; omega) | (simp; omega) | simp_all)]; rfl)
            clear HU3 HU0
            go_enter Tryz.func23, Tryz.ntmps23
            go_wp2_with (first
              | (go_at_call 44; refine (HK _).mono ?_; rintro e X ⟨rfl, rfl⟩))
            all_goals
              go_ret
              exact ⟨by rw [HF.out]; rfl, below_next (box_below _ _) (box_below _ _)⟩
        · have pip : ¬ (ip : Int) = 0 := by omega
          have HF := hide (show (f : Int) = 3 by rw [HU3.out (by unfold unusedP netZ; first | (simp only; omega) | (simp; omega) | simp_all)]; rfl)
          clear HU3 HU0
          go_enter Tryz.func23, Tryz.ntmps23
          go_wp2_with (first
            | (go_at_call 44; refine (HK _).mono ?_; rintro e X ⟨rfl, rfl⟩))
          all_goals
            go_ret
            exact ⟨by rw [HF.out]; rfl, below_next (box_below _ _) (box_below _ _)⟩
    · have pv : (0 : Int) < v := by omega
      have HF := hide (show (f : Int) = 3 by rw [HU3.out (by unfold unusedP netZ; first | (simp only; omega) | (simp; omega) | simp_all)]; rfl)
      clear HU3 HU0
      go_enter Tryz.func23, Tryz.ntmps23
      go_wp2_with (first
        | (go_at_call 44; refine (HK _).mono ?_; rintro e X ⟨rfl, rfl⟩))
      all_goals
        go_ret
        exact ⟨by rw [HF.out]; rfl, below_next (box_below _ _) (box_below _ _)⟩
  · have pm : (0 : Int) < m := by omega
    have HF := hide (show (f : Int) = 3 by rw [HU3.out (by unfold unusedP netZ; first | (simp only; omega) | (simp; omega) | simp_all)]; rfl)
    clear HU3 HU0
    go_enter Tryz.func23, Tryz.ntmps23
    go_wp2_with (first
      | (go_at_call 44; refine (HK _).mono ?_; rintro e X ⟨rfl, rfl⟩))
    all_goals
      go_ret
      exact ⟨by rw [HF.out]; rfl, below_next (box_below _ _) (box_below _ _)⟩

set_option maxHeartbeats 8000000 in
set_option maxRecDepth 100000 in
theorem dcondF_net (nr a : Nat) (hnr : nr < 9) (ha : a ≤ 3) (v m : Nat) (g : ByteArray) (ip : Nat) (b lo hi : Int) (hc : NtOk ⟨ip, b, lo, hi⟩) (w : World) (hk : kindAt nr a = 3) (f : Nat) (hu3 : unusedP ⟨a, 9, v, m, g, ⟨ip, b, lo, hi⟩⟩ → f = 3) (hu0 : ¬ unusedP ⟨a, 9, v, m, g, ⟨ip, b, lo, hi⟩⟩ → f = faultOf ip b lo hi) :
    Calls Tryz.prog 23 #[.int .i64 nr, condV ⟨a, 9, v, m, g, ⟨ip, b, lo, hi⟩⟩] w fun e w' => e = .returned (.int .i64 f) ∧ Below w.heap.size w w' := by
  have HK := fun X => dkind_any nr a hnr (by omega) X
  rw [hk] at HK
  have HG := fun X => netFault_any ip hc.ip b lo hi hc.bits hc.lo hc.hi X
  unfold netV at HG
  obtain ⟨ff, hff⟩ : ∃ x, x = faultOf ip b lo hi := ⟨_, rfl⟩
  rw [← hff] at HG hu0
  clear hff hc
  have HU3 := hide hu3
  have HU0 := hide hu0
  clear hk hu3 hu0 hnr
  unfold condV
  simp only
  have i1 : ¬ (a : Int) < 0 := by omega
  have i2 : ¬ 3 < (a : Int) := by omega
  by_cases hm : m = 0
  · subst hm
    by_cases hv : v = 0
    · subst hv
      by_cases hg : g.size = 0
      · have pg : ¬ (0 : Int) < g.size := by omega
        by_cases hip : ip = 0
        case neg =>
          have pip : ¬ (ip : Int) = 0 := by omega
          have HF := hide (HU0.out (by unfold unusedP netZ; first | (simp only; omega) | (simp; omega) | simp_all))
          clear HU3 HU0
          go_enter Tryz.func23, Tryz.ntmps23
          go_wp2_with (first
            | (go_at_call 44; refine (HK _).mono ?_; rintro e X ⟨rfl, rfl⟩)
            | (go_at_call 46; refine (HG _).mono ?_; rintro e X ⟨rfl, hX⟩))
          all_goals
            go_ret
            exact ⟨by rw [HF.out]; rfl, below_next (below_next (box_below _ _) (box_below _ _)) hX⟩
        subst hip
        have hz : ((0 : Nat) : Int) = 0 := rfl
        try simp only [hz] at HG
        clear hz
        by_cases hb : b = 0
        case neg =>
          have pb : ¬ (b : Int) = 0 := by omega
          have HF := hide (HU0.out (by unfold unusedP netZ; first | (simp only; omega) | (simp; omega) | simp_all))
          clear HU3 HU0
          go_enter Tryz.func23, Tryz.ntmps23
          go_wp2_with (first
            | (go_at_call 44; refine (HK _).mono ?_; rintro e X ⟨rfl, rfl⟩)
            | (go_at_call 46; refine (HG _).mono ?_; rintro e X ⟨rfl, hX⟩))
          all_goals
            go_ret
            exact ⟨by rw [HF.out]; rfl, below_next (below_next (box_below _ _) (box_below _ _)) hX⟩
        subst hb
        by_cases hlo : lo = 0
        case neg =>
          have plo : ¬ (lo : Int) = 0 := by omega
          have HF := hide (HU0.out (by unfold unusedP netZ; first | (simp only; omega) | (simp; omega) | simp_all))
          clear HU3 HU0
          go_enter Tryz.func23, Tryz.ntmps23
          go_wp2_with (first
            | (go_at_call 44; refine (HK _).mono ?_; rintro e X ⟨rfl, rfl⟩)
            | (go_at_call 46; refine (HG _).mono ?_; rintro e X ⟨rfl, hX⟩))
          all_goals
            go_ret
            exact ⟨by rw [HF.out]; rfl, below_next (below_next (box_below _ _) (box_below _ _)) hX⟩
        subst hlo
        by_cases hhi : hi = 0
        case neg =>
          have phi : ¬ (hi : Int) = 0 := by omega
          have HF := hide (HU0.out (by unfold unusedP netZ; first | (simp only; omega) | (simp; omega) | simp_all))
          clear HU3 HU0
          go_enter Tryz.func23, Tryz.ntmps23
          go_wp2_with (first
            | (go_at_call 44; refine (HK _).mono ?_; rintro e X ⟨rfl, rfl⟩)
            | (go_at_call 46; refine (HG _).mono ?_; rintro e X ⟨rfl, hX⟩))
          all_goals
            go_ret
            exact ⟨by rw [HF.out]; rfl, below_next (below_next (box_below _ _) (box_below _ _)) hX⟩
        subst hhi
        have HF := hide (HU0.out (by unfold unusedP netZ; first | (simp only; omega) | (simp; omega) | simp_all))
        clear HU3 HU0
        go_enter Tryz.func23, Tryz.ntmps23
        go_wp2_with (first
          | (go_at_call 44; refine (HK _).mono ?_; rintro e X ⟨rfl, rfl⟩)
          | (go_at_call 46; refine (HG _).mono ?_; rintro e X ⟨rfl, hX⟩))
        all_goals
          go_ret
          exact ⟨by rw [HF.out]; rfl, below_next (below_next (box_below _ _) (box_below _ _)) hX⟩
      · have pg : (0 : Int) < g.size := by omega
        have HF := hide (show (f : Int) = 3 by rw [HU3.out (by unfold unusedP netZ; first | (simp only; omega) | (simp; omega) | simp_all)]; rfl)
        clear HU3 HU0
        go_enter Tryz.func23, Tryz.ntmps23
        go_wp2_with (first
          | (go_at_call 44; refine (HK _).mono ?_; rintro e X ⟨rfl, rfl⟩))
        all_goals
          go_ret
          exact ⟨by rw [HF.out]; rfl, below_next (box_below _ _) (box_below _ _)⟩
    · have pv : (0 : Int) < v := by omega
      have HF := hide (show (f : Int) = 3 by rw [HU3.out (by unfold unusedP netZ; first | (simp only; omega) | (simp; omega) | simp_all)]; rfl)
      clear HU3 HU0
      go_enter Tryz.func23, Tryz.ntmps23
      go_wp2_with (first
        | (go_at_call 44; refine (HK _).mono ?_; rintro e X ⟨rfl, rfl⟩))
      all_goals
        go_ret
        exact ⟨by rw [HF.out]; rfl, below_next (box_below _ _) (box_below _ _)⟩
  · have pm : (0 : Int) < m := by omega
    have HF := hide (show (f : Int) = 3 by rw [HU3.out (by unfold unusedP netZ; first | (simp only; omega) | (simp; omega) | simp_all)]; rfl)
    clear HU3 HU0
    go_enter Tryz.func23, Tryz.ntmps23
    go_wp2_with (first
      | (go_at_call 44; refine (HK _).mono ?_; rintro e X ⟨rfl, rfl⟩))
    all_goals
      go_ret
      exact ⟨by rw [HF.out]; rfl, below_next (box_below _ _) (box_below _ _)⟩

theorem dcondF_any (nr : Nat) (hnr : nr < 9) (c : CD) (hc : CdOk c) (w : World) : Calls Tryz.prog 23 #[.int .i64 nr, condV c] w fun e w' => e = .returned (.int .i64 (condF nr c)) ∧ Below w.heap.size w w' := by
  by_cases h : c.arg < 0 ∨ 3 < c.arg ∨ c.op < 1 ∨ 9 < c.op
  · rw [show condF nr c = 1 from if_pos h]
    exact dcondF_bound nr c w h
  have hf : condF nr c = if kindAt nr c.arg.toNat ≠ kindOp c.op ∨ unusedP c then 3 else if c.op = 8 then globF c.glob else if c.op = 9 then netF c.net else 0 := if_neg h
  obtain ⟨arg, op, v, m, g, ⟨ip, b, lo, hi⟩⟩ := c
  simp only [not_or] at h hf
  obtain ⟨a, rfl⟩ : ∃ a : Nat, arg = a := ⟨arg.toNat, by omega⟩
  have ha : a ≤ 3 := by omega
  rw [Int.toNat_natCast] at hf
  by_cases hk : kindAt nr a = kindOp op
  · have h3 : unusedP ⟨a, op, v, m, g, ⟨ip, b, lo, hi⟩⟩ → condF nr ⟨a, op, v, m, g, ⟨ip, b, lo, hi⟩⟩ = 3 := fun hu => by rw [hf, if_pos (.inr hu)]
    have h0 : ¬ unusedP ⟨a, op, v, m, g, ⟨ip, b, lo, hi⟩⟩ → condF nr ⟨a, op, v, m, g, ⟨ip, b, lo, hi⟩⟩ = if op = 8 then globF g else if op = 9 then faultOf ip b lo hi else 0 := fun hu => by
      rw [hf, if_neg (by rw [not_or]; exact ⟨fun hc => hc hk, hu⟩)]
      rfl
    by_cases h8 : op = 8
    · subst h8
      exact dcondF_like nr a hnr ha v m g ip b lo hi w hk _ h3 h0
    by_cases h9 : op = 9
    · subst h9
      exact dcondF_net nr a hnr ha v m g ip b lo hi hc.net w hk _ h3 h0
    have hk1 : kindAt nr a = 1 := by rw [hk]; unfold kindOp; rw [if_neg h8, if_neg h9]
    rw [if_neg h8, if_neg h9] at h0
    by_cases h7 : op = 7
    · subst h7
      exact dcondF_mask nr a hnr ha v m g ip b lo hi w hk1 _ h3 h0
    · exact dcondF_num nr a hnr ha op h.2.2.1 (by omega) v m g ip b lo hi w hk1 _ h3 h0
  · rw [hf, if_pos (.inl hk)]
    exact dcondF_kind nr a hnr ha op v m g ip b lo hi h.2.2.1 h.2.2.2 w hk
end Go.Proofs.YtklibmijiecbfaaGreat
