/- asWard: of two wards that are alike. -/
import Derived.Test.YtklibmijiecbfaaGreatK39
import Derived.Test.YtklibmijiecbfaaGreatK40
namespace Go.Proofs.YtklibmijiecbfaaGreat
open Go.RowKit Mm

theorem DX.memo2 {g : Nat} {P : PV} {d : DWS} {sv : Nat → Value} {lv : Value} {W V : World} (h : DX g P d sv lv W) {x : Nat} (hm : Vr.IsD (LD g P d.T sv lv) d.mem V) (ht : Tch (fun k => k = g ∨ k = x) W V) (hx : ¬ InD g sv lv x) (hpx : P.bd ≤ x) : DX g P d sv lv V := by
 have hbd := h.bd
 have hne : ∀ k, InD g sv lv k → k ≠ g → V.heap[k]? = W.heap[k]? := fun k hk hg => ht.block k (h.inlt hk) (fun e => by
  rcases e with e | e
  ·
   exact hg e
  ·
   exact hx (e ▸ hk))
 exact ⟨hm, ownsRow_heap h.own (fun k hk => hne k (.inr (.inl hk)) (fun e => h.nl.1 (by rw [← e]; exact hk))), fun n hn => ownsRow_heap (h.sls n hn) (fun k hk => hne k (.inr (.inr ⟨n, hn, hk⟩)) (fun e => h.nl.2 n hn (by rw [← e]; exact hk))), h.nl, h.ap, Nat.le_trans h.bd ht.size, fun U hU hs => h.pol U (fun k hk n1 n2 n3 => (hU k hk n1 n2 n3).trans (ht.block k (by omega) (fun e => by
  rcases e with e | e
  ·
   exact n1 e
  ·
   omega))) hs⟩
theorem BW.mem2 {p : POL} {V : World} {g gm : Nat} {P : PV} {lv : Value} {s : WS} {K : Nat} {gd : Nat} {Q : PV} {sv : Nat → Value} {ld : Value} {d : DWS} {X Y : World} {x : Nat} (h : BW p V g gm P lv s K gd Q sv ld d X) (hm : Vr.IsD (LD gd Q d.T sv ld) d.mem Y) (ht : Tch (fun k => k = gd ∨ k = x) X Y) (hc : ¬ InC g gm lv x) (hd : ¬ InD gd sv ld x) (hp : P.bd ≤ x) : BW p V g gm P lv s K gd Q sv ld d Y := by
 have hv := h.vb
 have hgd := h.dl gd (.inl rfl)
 refine ⟨h.w.keep ht (fun k hk => ?_), h.pp, h.qp, h.inv, h.log, ht.below h.below (fun k hk => ?_), h.dx.memo2 hm ht hd (by omega), h.vb, h.cl, h.dl, h.ap⟩
 ·
  rcases hk with rfl | rfl
  ·
   exact ⟨fun e => h.ap _ e (.inl rfl), hgd⟩
  ·
   exact ⟨hc, hp⟩
 ·
  rcases hk with rfl | rfl
  ·
   omega
  ·
   omega
set_option maxHeartbeats 4000000 in
set_option maxRecDepth 20000 in
theorem asWard_any {p : POL} {V : World} {g gm : Nat} {P : PV} {lv : Value} {s : WS} {K : Nat} {gd : Nat} {Q : PV} {sv : Nat → Value} {ld : Value} {d : DWS} {X : World} (h : BW p V g gm P lv s K gd Q sv ld d X) (ht : TieW s d) (hK : K ≤ 1000000) :
  Calls Tryz.prog 17 #[.pointer (some ⟨g, 0, none⟩), .pointer (some ⟨gd, 0, none⟩)] X fun e w' => e = .returned (.bool true) ∧ BW p V g gm P lv s K gd Q sv ld d w' := by
 have HT := hide ht
 have HB := hide h
 clear h ht
 go_enter Tryz.func17, Tryz.ntmps17
 go_wp2_with fail
 go_loopw [5] (fun I w' => ∃ i : Nat, i ≤ 3 ∧ I = .int .i64 i ∧ Hid (BW p V g gm P lv s K gd Q sv ld d w')) (fun I _ => 3 - (intOf I).toNat)
 case atStart => exact ⟨0, by omega, rfl, HB⟩
 case round =>
  clear HB
  obtain ⟨i, hi, rfl, HB⟩ := hrel
  by_cases hlt : i < 3
  ·
   as_aux_lemma =>
   have hl : (i : Int) < 3 := by omega
   have k1 : (0 : Int) ≤ i := by omega
   obtain ⟨ph, hph⟩ : ∃ x, x = (d.T i).phase := ⟨_, rfl⟩
   have c1 : wr.cell? ⟨gd, 783 + i * 31, none⟩ = some (.int .i64 (ph : Nat)) := by rw [hph]; exact HB.out.dx.phase i hlt
   have HP := fun m => wphase_any (W := wr.drewN m) (i : Int) (HB.out.w.on (below_drewN (Below.refl _ _) m))
   rw [show phaseW (i : Int) s = ph by unfold phaseW; rw [if_pos ⟨k1, hl⟩, Int.toNat_natCast, hph]; exact (HT.out.thr i hlt).phase.symm] at HP
   clear hph
   go_wp2_with fail
   go_quiet ((go_at_call 39; exact Calls.quiet_of_same (HP _)))
   have HB2 := hide (HB.out.on (below_drewN (Below.refl _ _) nq))
   go_wp2
   go_round
   case rel => exact ⟨i + 1, by omega, by go_num, HB2⟩
   case measure => simp [intOf]; omega
  ·
   as_aux_lemma =>
   have hl : ¬ (i : Int) < 3 := by omega
   have HMM := wmem_any HB.out.w
   obtain ⟨xb, hxb⟩ : ∃ x, x = wr.heap.size := ⟨_, rfl⟩
   rw [← hxb] at HMM
   have HX := hide (show ¬ InC g gm lv xb ∧ ¬ InD gd sv ld xb ∧ P.bd ≤ xb from ⟨fun e => by have := HB.out.w.inlt e; omega, fun e => by have := HB.out.dx.inlt e; omega, by have := HB.out.w.bd; omega⟩)
   have HXB := hide hxb
   clear hxb hlt
   go_wp2_with fail
   refine HMM.mono ?_
   rintro e X1 ⟨rfl, hM1, hb1⟩
   rw [HXB.out] at hb1
   have HB1 := hide (HB.out.on hb1.drew)
   have HM1 := hide (show IsM xb s.mem X1.drew from hM1)
   have c1 : X1.drew.cell? ⟨gd, 876, none⟩ = some ld := HB1.out.dx.logc
   have HLG := wlog_any HB1.out.w (Nat.le_trans HB1.out.log hK)
   obtain ⟨lb, hlb⟩ : ∃ x, x = X1.drew.heap.size := ⟨_, rfl⟩
   rw [← hlb] at HLG
   have HLB := hide hlb
   have HPX := fun (n : Int) Y (h : WX g gm P s lv Y) (hn : phaseW n s = 6) => (show Calls Tryz.prog 39 #[.pointer (some ⟨g, 0, none⟩), .int .i64 n] Y fun e w' => e = .returned (.int .i64 6) ∧ w' = Y from (wphase_any n h).mono fun e w' ⟨he, hw⟩ => ⟨by rw [he, hn]; rfl, hw⟩)
   have HSL := fun (Y : World) hA (ho : Y.ownsRow 0 70 21 ld s.log.length (flatE s.log)) => sameLog2_any s.log lb Y hA ld ho (Nat.le_trans HB1.out.log hK)
   have HAM := fun (Y : World) (hM : IsM xb s.mem Y) (hD : Vr.IsD (LD gd Q d.T sv ld) s.mem Y) => (show Calls Tryz.prog 41 #[.pointer (some ⟨xb, 0, none⟩), .pointer (some ⟨gd, 3, none⟩)] Y fun e w' => e = .returned (.bool true) ∧ IsM xb s.mem w' ∧ Vr.IsD (LD gd Q d.T sv ld) s.mem w' ∧ Kp xb gd Y w' from asMemD_any (fun e => HX.out.2.1 (.inl e)) hM hD)
   obtain ⟨LL, hLL⟩ : ∃ x, x = s.log.length := ⟨_, rfl⟩
   rw [← hLL] at HLG
   have HLL := hide hLL
   simp only [← hLL] at HSL
   clear hlb hM1 hb1 HMM hLL
   go_wp2_with fail
   go_region_held3 (fun w' => w'.cell? ⟨gd, 876, none⟩ = some ld)
    (first | (with_reducible exact c1) | (with_reducible exact c2) | (with_reducible exact c3) | (with_reducible exact c4) | go_keep)
    ((first
     | (go_at_call 18; refine HLG.mono ?_; rintro e Y1 ⟨rfl, hrow, hb⟩; rw [HLB.out] at hb; have HB2 := hide (HB1.out.on hb); have HM2 := hide (HM1.out.on hb); have HRW := hide hrow; have c2 : Y1.cell? ⟨gd, 876, none⟩ = some ld := HB2.out.dx.logc; clear hrow hb)
     | (go_at_call 40; refine (HSL Y1 HRW.out (by rw [HLL.out, ← HT.out.log]; exact HB2.out.dx.own)).mono ?_; rintro e Y2 ⟨rfl, hb⟩; have HB3 := hide (HB2.out.on hb); have HM3 := hide (HM2.out.on hb); have c3 : Y2.cell? ⟨gd, 876, none⟩ = some ld := HB3.out.dx.logc; clear hb)
     | (go_at_call 41; refine (HAM Y2 HM3.out (by rw [← HT.out.mem]; exact HB3.out.dx.mem)).mono ?_; rintro e Y3 ⟨rfl, hM, hD, hK⟩; have HB4 := hide (HB3.out.mem2 (x := xb) (by rw [HT.out.mem]; exact hD) ⟨hK.os, hK.tape, hK.output, hK.size, fun k hk hn => hK.block k hk (fun e => hn (.inr e)) (fun e => hn (.inl e))⟩ HX.out.1 HX.out.2.1 HX.out.2.2); have c4 : Y3.cell? ⟨gd, 876, none⟩ = some ld := HB4.out.dx.logc; clear hM hD hK)
     | (go_at_call 39; refine (HPX _ Y3 HB4.out.w ?_).mono ?_; (· rfl); rintro e w' ⟨rfl, hw⟩; rw [hw]; clear hw w')))
   all_goals
    go_wp2
    go_ret
    exact ⟨rfl, HB4.out⟩
end Go.Proofs.YtklibmijiecbfaaGreat
