/- The walk of the law BpfSays. -/
import Derived.Test.YtlpcjonklfnejaaBOwn
namespace Go.Proofs.Ytlpcjonklfnejaa
open Go.RowKit

/-- Both words: what they are, and the error's number. -/
theorem words (c : CL) (hc : ClOk c) (k : Nat) (hk : k < 4294967296) : ∃ X E : Nat, (∀ w, Calls Try.prog 43 #[callV c, .int .u32 k] w fun e w' => e = .returned (.tuple #[.int .u32 X, errV E]) ∧ Below w.heap.size w w') ∧
    ∀ w, Calls Try.prog 44 #[callV c, .int .u32 k] w fun e w' => e = .returned (.tuple #[.int .u32 X, .int .i64 E]) ∧ Below w.heap.size w w' := by
  have HR := rword_any c hc k hk
  unfold rwordV at HR
  cases hp : placeB k with
  | true =>
    rw [hp] at HR
    exact ⟨wordN c (k / 4), 0, fun w => word_ok c hc k hp w, fun w => HR w⟩
  | false =>
    rw [hp] at HR
    exact ⟨0, 1, fun w => word_no c k hk hp w, fun w => HR w⟩

theorem bpfSays_skip (oa : Option Addr) (n cap : Nat) (c : CL) (k : Nat) (hn : 300 < n ∧ n ≤ 4096 ∨ 5000 < n) (w : World) :
    Calls Try.prog 7 #[.slice oa n cap, callV c, .int .u32 k] w fun e w' => e = .returned (.bool true) ∧ Below w.heap.size w w' := by
  unfold callV
  by_cases h3 : n ≤ 4096
  · have d1 : decide ((300 : Int) < (n : Int)) = true := by simp; omega
    have d2 : decide ((n : Int) ≤ 4096) = true := by simp; omega
    go_enter Try.func7, Try.ntmps7
    go_wp2_with fail
    refine (returns_any _).mono ?_
    rintro e w1 ⟨rfl, hb1⟩
    go_wp2
    go_ret
    exact ⟨rfl, below_next (box_below w _) hb1⟩
  · have d1 : decide ((300 : Int) < (n : Int)) = true := by simp; omega
    have d2 : decide ((n : Int) ≤ 4096) = false := by simp; omega
    have d3 : decide ((5000 : Int) < (n : Int)) = true := by simp; omega
    go_enter Try.func7, Try.ntmps7
    go_wp2_with fail
    refine (returns_any _).mono ?_
    rintro e w1 ⟨rfl, hb1⟩
    go_wp2
    go_ret
    exact ⟨rfl, below_next (box_below w _) hb1⟩

set_option maxRecDepth 20000 in
set_option maxHeartbeats 8000000 in
theorem bpfSays_mid (oa : Option Addr) (n cap : Nat) (L : Nat → IN) (c : CL) (k : Nat) (hn : n ≤ 300 ∨ 4096 < n ∧ n ≤ 5000) (hnil : oa = none → n = 0 ∧ cap = 0) (w : World) (h : IsProg oa n L w) (hok : ∀ i, i < n → InOk (L i))
    (X E f K N : Nat) (sb : ByteArray)
    (HW1 : ∀ w, Calls Try.prog 43 #[callV c, .int .u32 k] w fun e w' => e = .returned (.tuple #[.int .u32 X, errV E]) ∧ Below w.heap.size w w')
    (HW2 : ∀ w, Calls Try.prog 44 #[callV c, .int .u32 k] w fun e w' => e = .returned (.tuple #[.int .u32 X, .int .i64 E]) ∧ Below w.heap.size w w')
    (hf : checkR n L = f)
    (HBy : ∀ g cap w, IsProg (some ⟨g, 0, none⟩) n L w → Calls Try.prog 46 #[.slice (some ⟨g, 0, none⟩) n cap] w fun e w' => e = .returned (.tuple #[.string sb, errV f]) ∧ Below w.heap.size w w')
    (HRu : ∀ g cap w, IsProg (some ⟨g, 0, none⟩) n L w → Calls Try.prog 47 #[.slice (some ⟨g, 0, none⟩) n cap, callV c] w fun e w' => e = .returned (.tuple #[.int .u32 K, .int .i64 N, errV f]) ∧ Below w.heap.size w w')
    (hend : (f ≠ 0 ∧ sb = ⟨#[]⟩ ∧ K = 0 ∧ N = 0) ∨ (f = 0 ∧
      (∀ w, IsProg oa n L w → Calls Try.prog 50 #[.slice oa n cap, callV c] w fun e w' => e = .returned (.tuple #[.int .u32 K, .int .i64 N]) ∧ Below w.heap.size w w') ∧
      (∀ w, Calls Try.prog 51 #[.string sb] w fun e w' => Below w.heap.size w w' ∧ ∃ g, e = .returned (.tuple #[.slice (some ⟨g, 0, none⟩) n n, .nilIface]) ∧ IsProg (some ⟨g, 0, none⟩) n L w') ∧
      (∀ w, IsProg oa n L w → Calls Try.prog 52 #[.slice oa n cap] w fun e w' => e = .returned (.string sb) ∧ Below w.heap.size w w'))) :
    Calls Try.prog 7 #[.slice oa n cap, callV c, .int .u32 k] w fun e w' => e = .returned (.bool true) ∧ Below w.heap.size w w' := by
  have HP := hide h
  have HE := hide hend
  have HNIL := hide hnil
  have HOK := hide hok
  have HF := fun w h => rfault_any oa n cap (by omega) L w h
  have HCh := fun g cap w h => check_any (some ⟨g, 0, none⟩) n cap (by omega) L w h
  rw [hf] at HF HCh
  clear h hend hnil hok hf
  obtain ⟨inf, hi0, hz0, hz1, hz2⟩ := info_ins
  have hn5 : n ≤ 5000 := by omega
  have d5 : decide ((5000 : Int) < (n : Int)) = false := by simp; omega
  have d12 : (decide ((300 : Int) < (n : Int)) && decide ((n : Int) ≤ 4096)) = false := by rw [Bool.and_eq_false_iff]; simp; omega
  unfold callV at HW1 HW2 HRu HE ⊢
  obtain ⟨W0, hW0⟩ : ∃ W0, W0 = w.alloc (.cells #[.int .u32 c.arch, .int .u32 c.nr, .int .u64 c.a0, .int .u64 c.a1, .int .u64 c.a2, .int .u64 c.a3] 46) := ⟨_, rfl⟩
  have hb0 := hide (show Below w.heap.size w W0 by rw [hW0]; exact box_below _ _)
  have HCA := hide (show CallAt W0 w.heap.size c by rw [hW0]; exact call_boxed w c)
  have hg0 : w.heap.size < W0.heap.size := by rw [hW0]; simp
  obtain ⟨g0, hgg⟩ : ∃ g, g = w.heap.size := ⟨_, rfl⟩
  rw [← hgg] at HCA hg0
  go_enter Try.func7, Try.ntmps7
  go_wp2_with fail
  rw [← hW0, ← hgg]
  have HP0 := hide (HP.out.on hb0.out)
  clear HP
  replace hW0 := hide hW0
  replace hgg := hide hgg
  refine (returns_any _).mono ?_
  rintro e w1 ⟨rfl, hbx⟩
  have HB1 := hide hbx
  clear hbx
  have hbs : W0.heap.size ≤ w1.heap.size := HB1.out.size
  have e12 : ∀ (p : Bool), (p && decide ((n : Int) ≤ 4096)) = (p && decide ((n : Int) ≤ 4096)) := fun _ => rfl
  clear e12
  by_cases d1 : n ≤ 300
  case' pos =>
    have d2 : decide ((300 : Int) < (n : Int)) = false := by simp; omega
  case' neg =>
    have d2 : decide ((300 : Int) < (n : Int)) = true := by simp; omega
    have d3 : decide ((n : Int) ≤ 4096) = false := by simp; omega
  all_goals
    clear d12 hn
    go_wp2_with (first
      | (at_builtin; refine wpList_append_prog rfl _ _ rfl W0.heap.size ?_ oa n cap L ?_ HNIL.out ?_ (by omega) ?_ ?_; (· rfl); (· rfl); (· exact HP0.out.on HB1.out); (· exact hbs); intro v2 w2 ho2 hb2)
      | (at_builtin; refine wpList_append_lies _ rfl _ _ _ rfl W0.heap.size 78 inf _ 4 32 Try.underlying76 hi0 hz0 hz1 hz2 rfl (by omega) v2 n (flatI L n) ?_ ?_ ⟨w2.heap.size, 0, none⟩ 1 1 [.int .i64 77, .int .i64 0, .int .i64 0, .int .u32 0] ?_ ?_ ?_ ?_ ?_ ?_ ?_ ?_ (w2.heap.size + 1) ?_ ?_; (· rfl); (· exact ho2.alloc _); (· rfl); (· rfl); (· exact World.news_of_block (cs := #[.int .i64 77, .int .i64 0, .int .i64 0, .int .u32 0]) (t := 78) (fr := (0, 0)) (heap_alloc_new w2 _)); (· simp [Value.oneCell']); (· omega); (· (simp only [maxLen]; omega)); (· omega); (· (have := hb2.size; simp; omega)); (· simp); intro gg cap1 w3 hown3 hgrow hat hltt; have hcap := owns_cap hown3; have HB3 := hide ((((HB1.out.trans (hb2.mono hbs)).alloc (Nat.le_trans hbs hb2.size) _).grown hgrow (by have := hb2.size; simp; omega) fun j hj => (ho2.lt j hj).1)); obtain ⟨q0, q1, q2, q3, q4, q5⟩ := HCA.out.on fun j => (bcell HB3.out).1 g0 j hg0))
    have HOWN := hide (prog_prefix hown3 HOK.out)
    clear hown3 hgrow hat hltt hcap ho2 hb2
    refine (HW1 _).mono ?_
    rintro e w4 ⟨rfl, hbx⟩
    clear q0 q1 q2 q3 q4 q5
    have HB4 := hide (below_next HB3.out hbx)
    replace HOWN := hide (HOWN.out.on hbx)
    clear hbx HB3
    obtain ⟨q0, q1, q2, q3, q4, q5⟩ := HCA.out.on fun j => (bcell HB4.out).1 g0 j hg0
    go_wp2_with fail
    refine (HW2 _).mono ?_
    rintro e w5 ⟨rfl, hbx⟩
    clear q0 q1 q2 q3 q4 q5
    have HB5 := hide (below_next HB4.out hbx)
    replace HOWN := hide (HOWN.out.on hbx)
    clear hbx HB4
    go_wp2_with fail
    refine (HF _ (HP0.out.on HB5.out)).mono ?_
    rintro e w6 ⟨rfl, hbx⟩
    have HB6 := hide (below_next HB5.out hbx)
    replace HOWN := hide (HOWN.out.on hbx)
    clear hbx HB5
    go_wp2_with fail
    refine (HBy _ _ _ HOWN.out).mono ?_
    rintro e w7 ⟨rfl, hbx⟩
    have HB7 := hide (below_next HB6.out hbx)
    replace HOWN := hide (HOWN.out.on hbx)
    clear hbx HB6
    obtain ⟨q0, q1, q2, q3, q4, q5⟩ := HCA.out.on fun j => (bcell HB7.out).1 g0 j hg0
    go_wp2_with fail
    refine (HRu _ _ _ HOWN.out).mono ?_
    rintro e w8 ⟨rfl, hbx⟩
    clear q0 q1 q2 q3 q4 q5
    have HB8 := hide (below_next HB7.out hbx)
    replace HOWN := hide (HOWN.out.on hbx)
    clear hbx HB7
    go_wp2_with fail
    refine (same_errV E _).mono ?_
    rintro e w' ⟨rfl, rfl⟩
    go_wp2_with fail
    refine (HCh _ _ _ HOWN.out).mono ?_
    rintro e w9 ⟨rfl, hbx⟩
    have HB9 := hide (below_next HB8.out hbx)
    replace HOWN := hide (HOWN.out.on hbx)
    clear hbx HB8
    go_wp2_with fail
    refine (same_errV f _).mono ?_
    rintro e w' ⟨rfl, rfl⟩
    go_wp2_with fail
    refine (same_errV f _).mono ?_
    rintro e w' ⟨rfl, rfl⟩
    go_wp2_with fail
    refine (same_errV f _).mono ?_
    rintro e w' ⟨rfl, rfl⟩
    go_wp2_with fail
    have HSm := sameProg_any (some ⟨gg, 0, none⟩) oa n cap1 cap (by omega) L L _ HOWN.out (HP0.out.on HB9.out)
    rw [sameTo_self] at HSm
    refine HSm.mono ?_
    clear HSm
    rintro e w10 ⟨rfl, kk, hwx⟩
    have HB10 := hide (show Below W0.heap.size W0 w10 by rw [hwx]; exact below_drewN' HB9.out kk)
    clear hwx HB9 HOWN
    rcases HE.out with ⟨hf0, rfl, rfl, rfl⟩ | ⟨rfl, HRR, HPa, HRB⟩
    · have hfp : (0 : Int) < (f : Int) := by omega
      clear HE
      go_wp2
      go_ret
      exact ⟨rfl, below_next hb0.out HB10.out⟩
    · clear HE
      obtain ⟨q0, q1, q2, q3, q4, q5⟩ := HCA.out.on fun j => (bcell HB10.out).1 g0 j hg0
      go_wp2_with fail
      refine (HRR _ (HP0.out.on HB10.out)).mono ?_
      rintro e w11 ⟨rfl, hbx⟩
      clear q0 q1 q2 q3 q4 q5
      have HB11 := hide (below_next HB10.out hbx)
      clear hbx HB10
      go_wp2_with fail
      refine (HPa _).mono ?_
      rintro e w12 ⟨hbx, g2, rfl, hZ⟩
      have HB12 := hide (below_next HB11.out hbx)
      replace hZ := hide hZ
      clear hbx HB11
      go_wp2_with fail
      refine (HRB _ (HP0.out.on HB12.out)).mono ?_
      rintro e w13 ⟨rfl, hbx⟩
      have HB13 := hide (below_next HB12.out hbx)
      replace hZ := hide (hZ.out.on hbx)
      clear hbx HB12
      go_wp2_with fail
      refine (same_errV 0 _).mono ?_
      rintro e w' ⟨rfl, rfl⟩
      go_wp2_with fail
      have HSm := sameProg_any (some ⟨g2, 0, none⟩) oa n n cap (by omega) L L _ hZ.out (HP0.out.on HB13.out)
      rw [sameTo_self] at HSm
      refine HSm.mono ?_
      rintro e w14 ⟨rfl, kk, rfl⟩
      go_wp2
      go_ret
      exact ⟨rfl, below_next hb0.out (below_drewN' HB13.out kk)⟩

theorem bpfSays_any (oa : Option Addr) (n cap : Nat) (hm : n ≤ 9223372036854775807) (L : Nat → IN) (c : CL) (hc : ClOk c) (k : Nat) (hk : k < 4294967296) (hnil : oa = none → n = 0 ∧ cap = 0) (w : World) (h : IsProg oa n L w) (hok : ∀ i, i < n → InOk (L i)) :
    Calls Try.prog 7 #[.slice oa n cap, callV c, .int .u32 k] w fun e w' => e = .returned (.bool true) ∧ Below w.heap.size w w' := by
  by_cases hs : 300 < n ∧ n ≤ 4096 ∨ 5000 < n
  · exact bpfSays_skip oa n cap c k hs w
  obtain ⟨X, E, HW1, HW2⟩ := words c hc k hk
  by_cases hf : checkR n L = 0
  · have hF := fit_of hf
    have hS : ∀ i, i < n → Small (L i) := fun i hi => small_of (hF.each i hi) (hok i hi)
    have hrb := read_back hS
    have hsz : (strB (progB L n)).size / 8 = n := by rw [strB_size, progB_len]; omega
    have hmost := hF.most
    refine bpfSays_mid oa n cap L c k (by omega) hnil w h hok X E 0 (runR L c n 0 0 0).1 (runR L c n 0 0 0).2 (strB (progB L n)) HW1 HW2 hf (fun g cap w h => bytes_ok _ n cap L w h hf) (fun g cap w h => run_ok _ n cap L c hc w h hf) (.inr ⟨rfl, fun w h => rrun_ok oa n cap L c hc w h hf, fun w => ?_, fun w h => rbytes_ok oa n cap L w h hf⟩)
    have hP := parse_any (strB (progB L n)) (by rw [strB_size, progB_len]; omega) w
    rw [hsz] at hP
    refine hP.mono ?_
    rintro e w' ⟨hb, h2 | h2⟩
    · obtain ⟨_, _, g, he, hZ⟩ := h2
      refine ⟨hb, g, he, ⟨fun h0 => ?_⟩⟩
      obtain ⟨b, off, e1, e2, e3⟩ := hZ.lie h0
      exact ⟨b, off, e1, e2, fun i hi => by rw [← hrb i hi]; exact e3 i hi⟩
    · exact absurd ⟨(checkR_congr hrb).trans hf, by rw [progB_congr n hrb]⟩ h2.1
  · exact bpfSays_mid oa n cap L c k (by omega) hnil w h hok X E (checkR n L) 0 0 ⟨#[]⟩ HW1 HW2 rfl (fun g cap w h => bytes_bad _ n cap hm L w h hf) (fun g cap w h => run_bad _ n cap hm L c w h hf) (.inl ⟨hf, rfl, rfl, rfl⟩)
end Go.Proofs.Ytlpcjonklfnejaa
