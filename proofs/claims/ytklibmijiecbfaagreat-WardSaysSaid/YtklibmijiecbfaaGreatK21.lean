/- The document's Leads. -/
import Derived.Test.YtklibmijiecbfaaGreatK18
import Derived.Test.YtklibmijiecbfaaGreatK20
namespace Go.Proofs.YtklibmijiecbfaaGreat
open Go.RowKit Mm

def remL (nr i : Nat) : List Nat := (List.range 4).filter fun j => decide (i ≤ j) && decide (2 ≤ kindAt nr j)
theorem remL_hit {nr j : Nat} (hj : j < 4) (hk : 2 ≤ kindAt nr j) : remL nr j = j :: remL nr (j + 1) := by
 have r4 : List.range 4 = [0, 1, 2, 3] := rfl
 rcases show j = 0 ∨ j = 1 ∨ j = 2 ∨ j = 3 by omega with rfl | rfl | rfl | rfl <;> simp [remL, r4, List.filter, hk]
theorem remL_miss {nr j : Nat} (hj : j < 4) (hk : ¬ 2 ≤ kindAt nr j) : remL nr j = remL nr (j + 1) := by
 have r4 : List.range 4 = [0, 1, 2, 3] := rfl
 rcases show j = 0 ∨ j = 1 ∨ j = 2 ∨ j = 3 by omega with rfl | rfl | rfl | rfl <;> simp [remL, r4, List.filter, hk]
theorem remL_end (nr : Nat) : remL nr 4 = [] := rfl
theorem remL_zero {nr : Nat} (h : nr ≤ 8) : remL nr 0 = ptsOf nr := by
 unfold remL ptsOf
 rw [if_pos h]
 simp
def leadsL (m : MS) (nr : Nat) (now : Nat → Nat) : List Nat → (Nat → VL) → VS × Nat
 | [], v => (vsOf v, 0)
 | i :: r, v => match followF m (kindAt nr i) (now i) with
  | .inl x => leadsL m nr now r (updF v i x)
  | .inr e => (zeroVS, e)
def follow3 : Option (List Nat) → VL ⊕ Nat
 | none => .inr 14
 | some l => match readR ⟨(bytesOf l).toArray⟩ with
  | some x => .inl ⟨ByteArray.empty, x.1, x.2⟩
  | none => .inr 22
theorem followF_3 {m : MS} {k a : Nat} (hk : k ≠ 2) : followF m k a = follow3 (getR m a 16) := by
 unfold followF follow3
 rw [if_neg hk]
 cases getR m a 16 with
 | none => rfl
 | some l =>
  simp only
  cases readR ⟨(bytesOf l).toArray⟩ <;> rfl
theorem size_vals : (Tryz.prog.info? 68).map (·.size) = some 12 := by kernel_rfl
theorem vsC_one (v : VS) : (vsC v).all (·.oneCell') = true := by simp [vsC, Value.oneCell']
theorem results_vals {fn : Func} {p u : Tmp} (h : fn.results = #[.cell p 68, .tmp u]) (tmps : Array Value) (w : World) (g : Nat) (cs : Array Value) (v : Value) (hs : cs.size = 12)
  (hp : tmps.getD p undef = .pointer (some ⟨g, 0, none⟩)) (hv : tmps.getD u undef = v) (hg : w.heap[g]? = some (.cells cs 68 (0, 0))) :
  (results fn tmps).run Tryz.prog w = .ok (.tuple #[.agg cs, v]) w := by
 rw [results_cell_tmp h, hp, hv]
 have hl := run_loadVar_row (P := Tryz.prog) w g 68 68 cs (0, 0) _ hg Tryz.underlying68 rfl (by rw [hs]; exact size_vals)
 simp [asAddr, hl]
structure LX (W : World) (k : KL) (c : Array Value) (X : World) : Prop where
 below : Below W.heap.size W X
 call : X.heap[W.heap.size]? = some (.cells (klC k) 52 (0, 0))
 res : X.heap[W.heap.size + 1]? = some (.cells (vsC zeroVS) 68 (0, 0))
 val : X.heap[W.heap.size + 2]? = some (.cells c 68 (0, 0))
theorem LX.on {W : World} {k : KL} {c : Array Value} {X Y : World} (h : LX W k c X) (hb : Below X.heap.size X Y) : LX W k c Y :=
 ⟨below_next h.below hb, (hb.block _ (Array.getElem?_eq_some_iff.1 h.call).1).trans h.call, (hb.block _ (Array.getElem?_eq_some_iff.1 h.res).1).trans h.res, (hb.block _ (Array.getElem?_eq_some_iff.1 h.val).1).trans h.val⟩
theorem LX.start (W : World) (k : KL) : LX W k (vsC (vsOf fun _ => zeroVL)) (((W.alloc (.cells (klC k) 52)).alloc (.cells (vsC zeroVS) 68)).alloc (.cells (vsC zeroVS) 68)) := by
 have b1 := box_below W (.cells (klC k) 52)
 have b2 := box_below (W.alloc (.cells (klC k) 52)) (.cells (vsC zeroVS) 68)
 have b3 := box_below ((W.alloc (.cells (klC k) 52)).alloc (.cells (vsC zeroVS) 68)) (.cells (vsC zeroVS) 68)
 have s1 : (W.alloc (.cells (klC k) 52)).heap.size = W.heap.size + 1 := World.size_alloc _ _
 have s2 : ((W.alloc (.cells (klC k) 52)).alloc (.cells (vsC zeroVS) 68)).heap.size = W.heap.size + 2 := by rw [World.size_alloc, s1]
 refine ⟨below_next (below_next b1 b2) b3, ?_, ?_, ?_⟩
 ·
  rw [b3.block _ (by omega), b2.block _ (by omega)]
  exact heap_alloc_new W _
 ·
  rw [b3.block _ (by omega), ← s1]
  exact heap_alloc_new _ _
 ·
  rw [← s2]
  exact heap_alloc_new _ _
theorem LX.set {W : World} {k : KL} {c : Array Value} {X : World} (h : LX W k c X) (j : Nat) (v : Value) : LX W k (c.setIfInBounds j v) (X.setCell ⟨W.heap.size + 2, j, none⟩ v) := by
 rw [setCell_eq_setRow _ _ _ _ _ _ _ h.val]
 exact ⟨below_setRow h.below (by omega) _, (row_heap X _ _ _ (by omega)).trans h.call, (row_heap X _ _ _ (by omega)).trans h.res, setRow_heap _ _ _ _ _ _ h.val⟩
theorem vsC_path (v : Nat → VL) (i : Nat) (hi : i < 4) (s : ByteArray) : (vsC (vsOf v)).setIfInBounds (i * 3) (.string s) = vsC (vsOf (updF v i ⟨s, (v i).ip, (v i).port⟩)) := by
 rcases show i = 0 ∨ i = 1 ∨ i = 2 ∨ i = 3 by omega with rfl | rfl | rfl | rfl <;> rfl
theorem vsC_ip (v : Nat → VL) (i : Nat) (hi : i < 4) (x : Nat) : (vsC (vsOf v)).setIfInBounds (i * 3 + 1) (.int .u32 x) = vsC (vsOf (updF v i ⟨(v i).path, x, (v i).port⟩)) := by
 rcases show i = 0 ∨ i = 1 ∨ i = 2 ∨ i = 3 by omega with rfl | rfl | rfl | rfl <;> rfl
theorem vsC_port (v : Nat → VL) (i : Nat) (hi : i < 4) (x : Int) : (vsC (vsOf v)).setIfInBounds (i * 3 + 2) (.int .i64 x) = vsC (vsOf (updF v i ⟨(v i).path, (v i).ip, x⟩)) := by
 rcases show i = 0 ∨ i = 1 ∨ i = 2 ∨ i = 3 by omega with rfl | rfl | rfl | rfl <;> rfl
theorem lvs_at (v : Nat → VL) (i : Nat) (hi : i < 4) : (vsC (vsOf v))[i * 3]? = some (.string (v i).path) ∧ (vsC (vsOf v))[i * 3 + 1]? = some (.int .u32 (v i).ip) ∧ (vsC (vsOf v))[i * 3 + 2]? = some (.int .i64 (v i).port) := by
 rcases show i = 0 ∨ i = 1 ∨ i = 2 ∨ i = 3 by omega with rfl | rfl | rfl | rfl <;> exact ⟨rfl, rfl, rfl⟩
theorem klC_reg (k : KL) (i : Nat) (hi : i < 4) : (klC k)[2 + i]? = some (.int .u64 (regN k i)) := by
 rcases show i = 0 ∨ i = 1 ∨ i = 2 ∨ i = 3 by omega with rfl | rfl | rfl | rfl <;> rfl
theorem lreg_lt {k : KL} (hk : KlOk k) (i : Nat) (hi : i < 4) : regN k i < 18446744073709551616 := by
 obtain ⟨_, _, h2, h3, h4, h5⟩ := hk
 rcases show i = 0 ∨ i = 1 ∨ i = 2 ∨ i = 3 by omega with rfl | rfl | rfl | rfl
 ·
  exact h2
 ·
  exact h3
 ·
  exact h4
 ·
  exact h5
set_option maxHeartbeats 8000000 in
set_option maxRecDepth 20000 in
theorem dleads_any {L : Vr.LY} {m : MS} {W : World} (h : Vr.IsD L m W) (k : KL) (hk : KlOk k) (h8 : k.nr ≤ 8) :
  Calls Tryz.prog 101 #[.pointer (some ⟨L.g, L.o, none⟩), klV k] W fun e w' => e = .returned (.tuple #[vsV (leadsL m k.nr (regN k) (ptsOf k.nr) fun _ => zeroVL).1, .int .i64 ((leadsL m k.nr (regN k) (ptsOf k.nr) fun _ => zeroVL).2 : Nat)]) ∧ Below W.heap.size W w' := by
 obtain ⟨R, hR⟩ : ∃ R, R = leadsL m k.nr (regN k) (ptsOf k.nr) fun _ => zeroVL := ⟨_, rfl⟩
 obtain ⟨kc, hkc⟩ : ∃ c, c = klC k := ⟨_, rfl⟩
 obtain ⟨X0, hX0⟩ : ∃ X, X = ((W.alloc (.cells kc 52)).alloc (.cells #[.string ⟨#[]⟩, .int .u32 0, .int .i64 0, .string ⟨#[]⟩, .int .u32 0, .int .i64 0, .string ⟨#[]⟩, .int .u32 0, .int .i64 0, .string ⟨#[]⟩, .int .u32 0, .int .i64 0] 68)).alloc (.cells #[.string ⟨#[]⟩, .int .u32 0, .int .i64 0, .string ⟨#[]⟩, .int .u32 0, .int .i64 0, .string ⟨#[]⟩, .int .u32 0, .int .i64 0, .string ⟨#[]⟩, .int .u32 0, .int .i64 0] 68) := ⟨_, rfl⟩
 have HSt := hide (show LX W k (vsC (vsOf fun _ => zeroVL)) X0 by rw [hX0, hkc]; exact LX.start W k)
 have HR0 := hide (show leadsL m k.nr (regN k) (remL k.nr 0) (fun _ => zeroVL) = R by rw [remL_zero h8, hR])
 rw [← hR]
 obtain ⟨nr, hnr⟩ : ∃ n, n = k.nr := ⟨_, rfl⟩
 have HNR := hide hnr
 rw [← hnr] at HR0 h8
 have HM := hide h
 have HKO := hide hk
 have n1 : (nr : Int) < 100 := by omega
 have n2 : ¬ (100 : Int) < nr := by omega
 have n3 : IntKind.wrap .i64 (nr : Int) = nr := by rw [IntKind.wrap_i64] <;> omega
 have n4 : min (nr : Int) 100 = nr := by omega
 have HK := fun j hj w => dkind_any nr j (by omega) hj w
 unfold klV
 rw [← hkc]
 have HX0 := hide hX0
 obtain ⟨g, hg⟩ : ∃ g, g = L.g := ⟨_, rfl⟩
 obtain ⟨o, ho⟩ : ∃ o, o = L.o := ⟨_, rfl⟩
 have HGO := hide (And.intro hg ho)
 rw [← hg, ← ho]
 clear hR h hk hnr hX0 hkc hg ho
 go_enter Tryz.func101, Tryz.ntmps101
 go_wp2_with fail
 rw [← HX0.out]
 clear HX0
 obtain ⟨r, hr⟩ : ∃ r, r = W.heap.size := ⟨_, rfl⟩
 rw [← hr]
 have HRR := hide hr
 clear hr
 go_loopw [7] (fun I w' => ∃ (i : Nat) (v : Nat → VL), i ≤ 4 ∧ I = .int .i64 i ∧ Hid (LX W k (vsC (vsOf v)) w') ∧ Hid (leadsL m nr (regN k) (remL nr i) v = R ∧ ∀ j, i ≤ j → v j = zeroVL)) (fun I _ => 4 - (intOf I).toNat)
 case atStart => exact ⟨0, _, by omega, rfl, HSt, hide ⟨HR0.out, fun _ _ => rfl⟩⟩
 case round =>
  obtain ⟨i, v, hi, rfl, HC, HG⟩ := hrel
  clear HSt HR0
  have c1 : wr.cell? ⟨r, 1, none⟩ = some (.int .u32 (nr : Nat)) := by rw [HRR.out, cell_of_row _ _ 1 _ _ _ HC.out.call, HNR.out]; rfl
  by_cases hlt : i < 4
  ·
   have hl : (i : Int) < 4 := by omega
   have k1 : (0 : Int) ≤ i := by omega
   have HKJ := fun w => HK i hlt w
   obtain ⟨kd, hkd⟩ : ∃ k, k = kindAt nr i := ⟨_, rfl⟩
   simp only [← hkd] at HKJ
   have hk3 : kd ≤ 3 := by rw [hkd]; exact kind_le _ _
   obtain ⟨ax, hax⟩ : ∃ a, a = regN k i := ⟨_, rfl⟩
   have hax64 : ax < 18446744073709551616 := by rw [hax]; exact lreg_lt HKO.out i hlt
   have c2 : wr.cell? ⟨r, 2 + i, none⟩ = some (.int .u64 (ax : Nat)) := by rw [HRR.out, cell_of_row _ _ (2 + i) _ _ _ HC.out.call, hax]; exact klC_reg _ _ hlt
   by_cases hk2 : 2 ≤ kd
   ·
    have hhit := remL_hit hlt (by rw [← hkd]; exact hk2)
    have HIT := hide (show leadsL m nr (regN k) (remL nr i) v = match followF m kd ax with | .inl x => leadsL m nr (regN k) (remL nr (i + 1)) (updF v i x) | .inr e => (zeroVS, e) by rw [hhit, hkd, hax]; rfl)
    have hzv := HG.out.2 i (Nat.le_refl _)
    have hle := HC.out
    rcases show kd = 2 ∨ kd = 3 by omega with hk2' | hk3'
    ·
     as_aux_lemma =>
     have b2 : ((kd : Int) == 2) = true := by simpa using (show (kd : Int) = 2 by omega)
     have HTX : Hid (Calls Tryz.prog 119 #[.pointer (some ⟨g, o, none⟩), .int .u64 ax] wr fun e w' => e = .returned (rtextV (Mm.textP (peek m) ax 41 0 [])) ∧ Below wr.heap.size wr w') := hide (by rw [HGO.out.1, HGO.out.2]; exact Vr.dtext_any (HM.out.on HC.out.below) ax hax64)
     obtain ⟨⟨f, l⟩, hr⟩ : ∃ r, r = Mm.textP (peek m) ax 41 0 [] := ⟨_, rfl⟩
     have hcode := textP_code (peek m) ax 41 0 []
     rw [← hr] at HTX hcode
     obtain ⟨q, hq⟩ : ∃ q : ByteArray, q = ⟨(bytesOf l).toArray⟩ := ⟨_, rfl⟩
     have HFO := hide (show followF m kd ax = if f = 0 then .inl ⟨q, 0, 0⟩ else .inr (if f = 5 then 14 else 36) by
      unfold followF
      rw [if_pos hk2', ← hr, hq]
      rcases hcode with h0 | h0 | h0 <;> (have h0' : f = _ := h0; subst h0'; rfl))
     unfold rtextV at HTX
     simp only at HTX hcode
     rw [← hq] at HTX
     clear hr hq hkd hax hk2 hk2' hk3 hhit
     go_wp2_with (first | (go_at_call 44; refine (HKJ _).mono ?_; rintro e w' ⟨rfl, hw⟩; rw [hw]; clear hw w'))
     refine HTX.out.mono ?_
     rintro e X ⟨rfl, hX⟩
     have hC2 := HC.out.on hX
     have s0 : X.cell? ⟨r + 2, i * 3, none⟩ = some (.string (v i).path) := by rw [HRR.out, cell_of_row _ _ _ _ _ _ hC2.val]; exact (lvs_at v i hlt).1
     have f0 : X.frozen? ⟨r + 2, i * 3, none⟩ = false := by rw [HRR.out]; exact frozen_of_row _ _ _ _ _ hC2.val
     have HD : Hid (LX W k (vsC (vsOf (updF v i ⟨q, 0, 0⟩))) (X.setCell ⟨r + 2, i * 3, none⟩ (.string q))) := hide (by
      have := hC2.set (i * 3) (.string q)
      rw [vsC_path v i hlt, hzv, ← HRR.out] at this
      exact this)
     clear hC2 hX HTX HC hzv hle
     rcases hcode with rfl | rfl | rfl
     ·
      rw [if_pos rfl] at HFO
      have HV := hide (show leadsL m nr (regN k) (remL nr (i + 1)) (updF v i ⟨q, 0, 0⟩) = R ∧ ∀ j, i + 1 ≤ j → updF v i ⟨q, 0, 0⟩ j = zeroVL from ⟨by rw [← HG.out.1, HIT.out, HFO.out], fun j hj => by rw [updF_other _ _ (by omega)]; exact HG.out.2 j (by omega)⟩)
      go_wp2
      go_round
      case rel => exact ⟨i + 1, _, by omega, by go_num, HD, HV⟩
      case measure => simp [intOf]; omega
     ·
      have HV := hide (show R = (zeroVS, 14) by rw [← HG.out.1, HIT.out, HFO.out]; rfl)
      have hres := HD.out.res
      rw [← HRR.out] at hres
      have HBE := hide (below_setRow (g := r + 1) HD.out.below (by rw [HRR.out]; omega) #[.string ⟨#[]⟩, .int .u32 0, .int .i64 0, .string ⟨#[]⟩, .int .u32 0, .int .i64 0, .string ⟨#[]⟩, .int .u32 0, .int .i64 0, .string ⟨#[]⟩, .int .u32 0, .int .i64 0])
      clear HD
      go_wp2_with (first | (refine wpList_store_row rfl 68 _ _ rfl (r + 1) #[.string ⟨#[]⟩, .int .u32 0, .int .i64 0, .string ⟨#[]⟩, .int .u32 0, .int .i64 0, .string ⟨#[]⟩, .int .u32 0, .int .i64 0, .string ⟨#[]⟩, .int .u32 0, .int .i64 0] rfl rfl 68 _ hres size_vals rfl (vsC_one zeroVS) ?_))
      refine bodyPost_ret (v := .tuple #[.agg #[.string ⟨#[]⟩, .int .u32 0, .int .i64 0, .string ⟨#[]⟩, .int .u32 0, .int .i64 0, .string ⟨#[]⟩, .int .u32 0, .int .i64 0, .string ⟨#[]⟩, .int .u32 0, .int .i64 0], .int .i64 14]) (results_vals rfl _ _ (r + 1) #[.string ⟨#[]⟩, .int .u32 0, .int .i64 0, .string ⟨#[]⟩, .int .u32 0, .int .i64 0, .string ⟨#[]⟩, .int .u32 0, .int .i64 0, .string ⟨#[]⟩, .int .u32 0, .int .i64 0] _ rfl rfl rfl (setRow_heap _ _ _ _ _ _ hres)) rfl ⟨?_, HBE.out⟩
      rw [HV.out]
      rfl
     ·
      have HV := hide (show R = (zeroVS, 36) by rw [← HG.out.1, HIT.out, HFO.out]; rfl)
      have hres := HD.out.res
      rw [← HRR.out] at hres
      have HBE := hide (below_setRow (g := r + 1) HD.out.below (by rw [HRR.out]; omega) #[.string ⟨#[]⟩, .int .u32 0, .int .i64 0, .string ⟨#[]⟩, .int .u32 0, .int .i64 0, .string ⟨#[]⟩, .int .u32 0, .int .i64 0, .string ⟨#[]⟩, .int .u32 0, .int .i64 0])
      clear HD
      go_wp2_with (first | (refine wpList_store_row rfl 68 _ _ rfl (r + 1) #[.string ⟨#[]⟩, .int .u32 0, .int .i64 0, .string ⟨#[]⟩, .int .u32 0, .int .i64 0, .string ⟨#[]⟩, .int .u32 0, .int .i64 0, .string ⟨#[]⟩, .int .u32 0, .int .i64 0] rfl rfl 68 _ hres size_vals rfl (vsC_one zeroVS) ?_))
      refine bodyPost_ret (v := .tuple #[.agg #[.string ⟨#[]⟩, .int .u32 0, .int .i64 0, .string ⟨#[]⟩, .int .u32 0, .int .i64 0, .string ⟨#[]⟩, .int .u32 0, .int .i64 0, .string ⟨#[]⟩, .int .u32 0, .int .i64 0], .int .i64 36]) (results_vals rfl _ _ (r + 1) #[.string ⟨#[]⟩, .int .u32 0, .int .i64 0, .string ⟨#[]⟩, .int .u32 0, .int .i64 0, .string ⟨#[]⟩, .int .u32 0, .int .i64 0, .string ⟨#[]⟩, .int .u32 0, .int .i64 0] _ rfl rfl rfl (setRow_heap _ _ _ _ _ _ hres)) rfl ⟨?_, HBE.out⟩
      rw [HV.out]
      rfl
    ·
     as_aux_lemma =>
     have b2 : ((kd : Int) == 2) = false := by simpa using (show ¬ (kd : Int) = 2 by omega)
     have b3 : ((kd : Int) == 3) = true := by simpa using (show (kd : Int) = 3 by omega)
     have HTX : Hid (Calls Tryz.prog 120 #[.pointer (some ⟨g, o, none⟩), .int .u64 ax, .int .i64 16] wr fun e w' => e = .returned (rgetV (getR m ax 16)) ∧ Below wr.heap.size wr w') := hide (by rw [HGO.out.1, HGO.out.2]; exact Vr.dget_any (HM.out.on HC.out.below) ax 16 hax64 (by omega))
     obtain ⟨G, hG⟩ : ∃ r, r = getR m ax 16 := ⟨_, rfl⟩
     rw [← hG] at HTX
     have HFO := hide (show followF m kd ax = follow3 G by rw [hG]; exact followF_3 (by omega))
     clear hG hkd hax hk2 hk3' hk3 hhit
     cases G with
     | none => as_aux_lemma =>
      unfold follow3 at HFO
      simp only at HFO
      unfold rgetV at HTX
      simp only at HTX
      have HAO := fun w => addrOf_any ⟨#[]⟩ w
      rw [show readR ⟨#[]⟩ = none from by rfl] at HAO
      unfold ofV at HAO
      simp only at HAO
      go_wp2_with (first | (go_at_call 44; refine (HKJ _).mono ?_; rintro e w' ⟨rfl, hw⟩; rw [hw]; clear hw w'))
      refine HTX.out.mono ?_
      rintro e X0 ⟨rfl, hX0⟩
      have hC0 := HC.out.on hX0
      clear hX0 HTX HC
      go_wp2_with fail
      refine (HAO X0).mono ?_
      rintro e X ⟨rfl, hX⟩
      have hC2 := hC0.on hX
      have s1 : X.cell? ⟨r + 2, i * 3 + 1, none⟩ = some (.int .u32 ((v i).ip : Nat)) := by rw [HRR.out, cell_of_row _ _ _ _ _ _ hC2.val]; exact (lvs_at v i hlt).2.1
      have f1 : X.frozen? ⟨r + 2, i * 3 + 1, none⟩ = false := by rw [HRR.out]; exact frozen_of_row _ _ _ _ _ hC2.val
      have hC3 := hC2.set (i * 3 + 1) (.int .u32 (0 : Nat))
      rw [vsC_ip v i hlt, ← HRR.out] at hC3
      have s2 : (X.setCell ⟨r + 2, i * 3 + 1, none⟩ (.int .u32 0)).cell? ⟨r + 2, i * 3 + 2, none⟩ = some (.int .i64 (v i).port) := by
       have h1 : (X.setCell ⟨r + 2, i * 3 + 1, none⟩ (.int .u32 0)).cell? ⟨r + 2, i * 3 + 2, none⟩ = _ := cell_of_row _ _ _ _ _ _ (by rw [HRR.out] at hC3 ⊢; exact hC3.val)
       rw [h1, (lvs_at _ i hlt).2.2, updF_same]
      have f2 : (X.setCell ⟨r + 2, i * 3 + 1, none⟩ (.int .u32 0)).frozen? ⟨r + 2, i * 3 + 2, none⟩ = false := frozen_of_row _ _ _ _ _ (by rw [HRR.out] at hC3 ⊢; exact hC3.val)
      have hC4 := hC3
      rw [HRR.out] at hC4
      have hD := hC4.set (i * 3 + 2) (.int .i64 ((0 : Nat) : Int))
      rw [vsC_port _ i hlt, ← HRR.out] at hD
      have HD := hide hD
      clear hC4 hD
      replace HD : Hid (LX W k _ ((X.setCell ⟨r + 2, i * 3 + 1, none⟩ (.int .u32 0)).setCell ⟨r + 2, i * 3 + 2, none⟩ (.int .i64 0))) := HD
      clear hC0 hC2 hC3 hX HAO
      have HV := hide (show R = (zeroVS, 14) by rw [← HG.out.1, HIT.out, HFO.out])
      have hres := HD.out.res
      rw [← HRR.out] at hres
      have HBE := hide (below_setRow (g := r + 1) HD.out.below (by rw [HRR.out]; omega) #[.string ⟨#[]⟩, .int .u32 0, .int .i64 0, .string ⟨#[]⟩, .int .u32 0, .int .i64 0, .string ⟨#[]⟩, .int .u32 0, .int .i64 0, .string ⟨#[]⟩, .int .u32 0, .int .i64 0])
      clear HD
      go_wp2_with (first | (refine wpList_store_row rfl 68 _ _ rfl (r + 1) #[.string ⟨#[]⟩, .int .u32 0, .int .i64 0, .string ⟨#[]⟩, .int .u32 0, .int .i64 0, .string ⟨#[]⟩, .int .u32 0, .int .i64 0, .string ⟨#[]⟩, .int .u32 0, .int .i64 0] rfl rfl 68 _ hres size_vals rfl (vsC_one zeroVS) ?_))
      refine bodyPost_ret (v := .tuple #[.agg #[.string ⟨#[]⟩, .int .u32 0, .int .i64 0, .string ⟨#[]⟩, .int .u32 0, .int .i64 0, .string ⟨#[]⟩, .int .u32 0, .int .i64 0, .string ⟨#[]⟩, .int .u32 0, .int .i64 0], .int .i64 14]) (results_vals rfl _ _ (r + 1) #[.string ⟨#[]⟩, .int .u32 0, .int .i64 0, .string ⟨#[]⟩, .int .u32 0, .int .i64 0, .string ⟨#[]⟩, .int .u32 0, .int .i64 0, .string ⟨#[]⟩, .int .u32 0, .int .i64 0] _ rfl rfl rfl (setRow_heap _ _ _ _ _ _ hres)) rfl ⟨?_, HBE.out⟩
      rw [HV.out]
      rfl
     | some l => as_aux_lemma =>
      unfold follow3 at HFO
      simp only at HFO
      unfold rgetV at HTX
      simp only at HTX
      obtain ⟨q, hq⟩ : ∃ q : ByteArray, q = ⟨(bytesOf l).toArray⟩ := ⟨_, rfl⟩
      rw [← hq] at HTX HFO
      have HAO := fun w => addrOf_any q w
      obtain ⟨rr, hrr⟩ : ∃ r, r = readR q := ⟨_, rfl⟩
      rw [← hrr] at HAO HFO
      clear hq hrr
      go_wp2_with (first | (go_at_call 44; refine (HKJ _).mono ?_; rintro e w' ⟨rfl, hw⟩; rw [hw]; clear hw w'))
      refine HTX.out.mono ?_
      rintro e X0 ⟨rfl, hX0⟩
      have hC0 := HC.out.on hX0
      clear hX0 HTX HC hle
      go_wp2_with fail
      cases rr with
      | none => as_aux_lemma =>
       unfold ofV at HAO
       simp only at HAO HFO
       refine (HAO X0).mono ?_
       rintro e X ⟨rfl, hX⟩
       have HD := hide (hC0.on hX)
       clear hC0 hX HAO
       have HV := hide (show R = (zeroVS, 22) by rw [← HG.out.1, HIT.out, HFO.out])
       have hres := HD.out.res
       rw [← HRR.out] at hres
       have HBE := hide (below_setRow (g := r + 1) HD.out.below (by rw [HRR.out]; omega) #[.string ⟨#[]⟩, .int .u32 0, .int .i64 0, .string ⟨#[]⟩, .int .u32 0, .int .i64 0, .string ⟨#[]⟩, .int .u32 0, .int .i64 0, .string ⟨#[]⟩, .int .u32 0, .int .i64 0])
       clear HD
       go_wp2_with (first | (refine wpList_store_row rfl 68 _ _ rfl (r + 1) #[.string ⟨#[]⟩, .int .u32 0, .int .i64 0, .string ⟨#[]⟩, .int .u32 0, .int .i64 0, .string ⟨#[]⟩, .int .u32 0, .int .i64 0, .string ⟨#[]⟩, .int .u32 0, .int .i64 0] rfl rfl 68 _ hres size_vals rfl (vsC_one zeroVS) ?_))
       refine bodyPost_ret (v := .tuple #[.agg #[.string ⟨#[]⟩, .int .u32 0, .int .i64 0, .string ⟨#[]⟩, .int .u32 0, .int .i64 0, .string ⟨#[]⟩, .int .u32 0, .int .i64 0, .string ⟨#[]⟩, .int .u32 0, .int .i64 0], .int .i64 22]) (results_vals rfl _ _ (r + 1) #[.string ⟨#[]⟩, .int .u32 0, .int .i64 0, .string ⟨#[]⟩, .int .u32 0, .int .i64 0, .string ⟨#[]⟩, .int .u32 0, .int .i64 0, .string ⟨#[]⟩, .int .u32 0, .int .i64 0] _ rfl rfl rfl (setRow_heap _ _ _ _ _ _ hres)) rfl ⟨?_, HBE.out⟩
       rw [HV.out]
       rfl
      | some pr => as_aux_lemma =>
       obtain ⟨ip, port⟩ := pr
       unfold ofV at HAO
       simp only at HAO HFO
       refine (HAO X0).mono ?_
       rintro e X ⟨rfl, hX⟩
       have hC2 := hC0.on hX
       have s1 : X.cell? ⟨r + 2, i * 3 + 1, none⟩ = some (.int .u32 ((v i).ip : Nat)) := by rw [HRR.out, cell_of_row _ _ _ _ _ _ hC2.val]; exact (lvs_at v i hlt).2.1
       have f1 : X.frozen? ⟨r + 2, i * 3 + 1, none⟩ = false := by rw [HRR.out]; exact frozen_of_row _ _ _ _ _ hC2.val
       have hC3 := hC2.set (i * 3 + 1) (.int .u32 (ip : Nat))
       rw [vsC_ip v i hlt, ← HRR.out] at hC3
       have s2 : (X.setCell ⟨r + 2, i * 3 + 1, none⟩ (.int .u32 (ip : Nat))).cell? ⟨r + 2, i * 3 + 2, none⟩ = some (.int .i64 (v i).port) := by
        have h1 : (X.setCell ⟨r + 2, i * 3 + 1, none⟩ (.int .u32 (ip : Nat))).cell? ⟨r + 2, i * 3 + 2, none⟩ = _ := cell_of_row _ _ _ _ _ _ (by rw [HRR.out] at hC3 ⊢; exact hC3.val)
        rw [h1, (lvs_at _ i hlt).2.2, updF_same]
       have f2 : (X.setCell ⟨r + 2, i * 3 + 1, none⟩ (.int .u32 (ip : Nat))).frozen? ⟨r + 2, i * 3 + 2, none⟩ = false := frozen_of_row _ _ _ _ _ (by rw [HRR.out] at hC3 ⊢; exact hC3.val)
       have hC4 := hC3
       rw [HRR.out] at hC4
       have hD := hC4.set (i * 3 + 2) (.int .i64 ((port : Nat) : Int))
       rw [vsC_port _ i hlt, updF_same, updF_again, hzv, ← HRR.out] at hD
       have HD := hide hD
       clear hC0 hC2 hC3 hC4 hD hX HAO
       have HV := hide (show leadsL m nr (regN k) (remL nr (i + 1)) (updF v i ⟨ByteArray.empty, ip, port⟩) = R ∧ ∀ j, i + 1 ≤ j → updF v i ⟨ByteArray.empty, ip, port⟩ j = zeroVL from ⟨by rw [← HG.out.1, HIT.out, HFO.out], fun j hj => by rw [updF_other _ _ (by omega)]; exact HG.out.2 j (by omega)⟩)
       go_wp2
       go_round
       case rel => exact ⟨i + 1, _, by omega, by go_num, HD, HV⟩
       case measure => simp [intOf]; omega
   ·
    have hk1 : ¬ 2 ≤ kd := hk2
    as_aux_lemma =>
    have b2 : ((kd : Int) == 2) = false := by simpa using (show ¬ (kd : Int) = 2 by omega)
    have b3 : ((kd : Int) == 3) = false := by simpa using (show ¬ (kd : Int) = 3 by omega)
    have HV := hide (show leadsL m nr (regN k) (remL nr (i + 1)) v = R ∧ ∀ j, i + 1 ≤ j → v j = zeroVL from ⟨by rw [← remL_miss hlt (by rw [← hkd]; exact hk1)]; exact HG.out.1, fun j hj => HG.out.2 j (by omega)⟩)
    clear hkd hax hk2 hk1 hax64 c2 HG
    go_wp2_with (go_at_call 44; refine (HKJ _).mono ?_; rintro e w' ⟨rfl, hw⟩; rw [hw]; clear hw w')
    go_round
    case rel => exact ⟨i + 1, v, by omega, by go_num, HC, HV⟩
    case measure => simp [intOf]; omega
  ·
   as_aux_lemma =>
   have hl : ¬ (i : Int) < 4 := by omega
   have h4 : i = 4 := by omega
   have HV := hide (show R = (vsOf v, 0) by rw [← HG.out.1, h4, remL_end]; rfl)
   have hres := HC.out.res
   have hval := HC.out.val
   rw [← HRR.out] at hres hval
   obtain ⟨vc, hvc⟩ : ∃ c, c = vsC (vsOf v) := ⟨_, rfl⟩
   have hvs : vc.size = 12 := by rw [hvc]; rfl
   have hv1 : vc.all (·.oneCell') = true := by rw [hvc]; exact vsC_one _
   have HVC := hide hvc
   rw [← hvc] at hval
   have HBE := hide (below_setRow (g := r + 1) HC.out.below (by rw [HRR.out]; omega) vc)
   clear h4 hlt HC HG hvc
   go_wp2_with (first
    | (refine wpList_load_row rfl 68 (.tmp 6) rfl (r + 2) rfl 68 vc (0, 0) _ hval Tryz.underlying68 rfl (by rw [hvs]; exact size_vals) ?_)
    | (refine wpList_store_row rfl 68 _ _ rfl (r + 1) vc rfl rfl 68 _ hres (by rw [hvs]; exact size_vals) (by rw [hvs]; rfl) hv1 ?_))
   refine bodyPost_ret (v := .tuple #[.agg vc, .int .i64 0]) (results_vals rfl _ _ (r + 1) vc _ hvs rfl rfl (setRow_heap _ _ _ _ _ _ hres)) rfl ⟨?_, HBE.out⟩
   rw [HV.out, HVC.out]
   rfl
end Go.Proofs.YtklibmijiecbfaaGreat
