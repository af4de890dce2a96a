/- TopLate returns true, for all that comes in, and leaves it as it was. -/
import Derived.Test.YtlgghomjlhnijaaGreatK12
import Derived.Test.YtlgghomjlhnijaaGreatK13
import Derived.Test.YtlgghomjlhnijaaGreatK1
import Derived.ProofKit
import Derived.Carry
import Derived.OpenShut
import Derived.Deep.Slices
import Derived.Lib.SmallJoins
import Derived.Test.YtlgghomjlhnijaaGreatK6
import Derived.Test.YtlgghomjlhnijaaGreatK5
/- Two wards side by side. -/
namespace Go.Proofs.YtlgghomjlhnijaaGreat
open Go.RowKit Mm

theorem own_heap {W V : World} {base e size n : Nat} {v : Value} {xs : List Value} (h : W.ownsRow base e size v n xs) (hb : ∀ k, v.ownBlock = some k → V.heap[k]? = W.heap[k]?) : V.ownsRow base e size v n xs := by
  obtain ⟨h1, h2⟩ := h
  refine ⟨h1, ?_⟩
  rcases h2 with h2 | ⟨gl, cap, cur, rfl, h3, hrow, h4⟩
  · exact .inl h2
  · exact .inr ⟨gl, cap, cur, rfl, h3, (hb gl rfl).trans hrow, h4⟩
theorem WX.side {g gm : Nat} {P : PV} {s : WS} {lv : Value} {X Z : World} (h : WX g gm P s lv X) (hg : Z.heap[g]? = X.heap[g]?) (hm : Z.heap[gm]? = X.heap[gm]?) (hl : ∀ k, lv.ownBlock = some k → Z.heap[k]? = X.heap[k]?) (hs : X.heap.size ≤ Z.heap.size)
    (hpol : ∀ U : World, (∀ k, k < P.bd → k ≠ g → k ≠ gm → lv.ownBlock ≠ some k → U.heap[k]? = Z.heap[k]?) → P.bd ≤ U.heap.size → IsPol P.oa P.cap P.p U) : WX g gm P s lv Z :=
  ⟨hg.trans h.row, hm.trans h.mem, own_heap h.own hl, h.ne, h.nl, Nat.le_trans h.bd hs, hpol⟩
/-- Two wards of one policy in one world, that share no memory. -/
structure TW2 (p : POL) (g gm : Nat) (P : PV) (lv : Value) (s : WS) (g' gm' : Nat) (lv' : Value) (x : WS) (K : Nat) (V X : World) : Prop where
  a : WL p g gm P lv s K V X
  b : WX g' gm' P x lv' X
  ib : Inv p x
  lb : x.log.length ≤ K
  d1 : g' ≠ g ∧ g' ≠ gm ∧ gm' ≠ g ∧ gm' ≠ gm
  d2 : lv.ownBlock ≠ some g' ∧ lv.ownBlock ≠ some gm'
  d3 : lv'.ownBlock ≠ some g ∧ lv'.ownBlock ≠ some gm
  d4 : ∀ k, lv.ownBlock = some k → lv'.ownBlock ≠ some k
  d5 : P.bd ≤ g' ∧ P.bd ≤ gm' ∧ ∀ k, lv'.ownBlock = some k → P.bd ≤ k
  d6 : V.heap.size ≤ g' ∧ V.heap.size ≤ gm' ∧ ∀ k, lv'.ownBlock = some k → V.heap.size ≤ k
theorem TW2.start {p : POL} {g gm : Nat} {P : PV} {lv : Value} {s : WS} {g' gm' : Nat} {lv' : Value} {K : Nat} {V X Z : World} (h : WL p g gm P lv s K V X) (hc : CWX g' gm' P s lv' X Z) : TW2 p g gm P lv s g' gm' lv' s K V Z := by
  have h1 := h.ward.glt
  have h2 := h.ward.mlt
  have h3 := h.ward.bd
  have h4 := h.below.size
  have hl : ∀ k, lv.ownBlock = some k → k < X.heap.size := fun k hk => (h.ward.own.lt k hk).2
  have c1 := hc.g
  have c2 := hc.m
  refine ⟨h.on hc.below, hc.ward, h.inv, h.log, ⟨by omega, by omega, by omega, by omega⟩, ⟨fun e => by have := hl _ e; omega, fun e => by have := hl _ e; omega⟩, ⟨fun e => by have := hc.l _ e; omega, fun e => by have := hc.l _ e; omega⟩, fun k hk e => by have := hc.l _ e; have := hl _ hk; omega, ⟨by omega, by omega, fun k hk => by have := hc.l _ hk; omega⟩, by omega, by omega, fun k hk => by have := hc.l _ hk; omega⟩
/-- The first has turned. -/
theorem TW2.first {p : POL} {g gm : Nat} {P : PV} {lv lv2 : Value} {s s2 : WS} {g' gm' : Nat} {lv' : Value} {x : WS} {K K2 : Nat} {V X Z : World} (h : TW2 p g gm P lv s g' gm' lv' x K V X) (hw : WL p g gm P lv2 s2 K2 V Z) (hf : Fr g gm lv lv2 X Z) (hK : K ≤ K2) : TW2 p g gm P lv2 s2 g' gm' lv' x K2 V Z := by
  have b1 := h.b.glt
  have b2 := h.b.mlt
  have hl : ∀ k, lv'.ownBlock = some k → k < X.heap.size := fun k hk => (h.b.own.lt k hk).2
  obtain ⟨e1, e2, e3, e4⟩ := h.d1
  obtain ⟨e5, e6, e7⟩ := h.d5
  refine ⟨hw, h.b.side (hf.block _ b1 e1 e2 h.d2.1) (hf.block _ b2 e3 e4 h.d2.2) (fun k hk => hf.block k (hl k hk) (fun e => h.d3.1 (by rw [← e]; exact hk)) (fun e => h.d3.2 (by rw [← e]; exact hk)) (fun e => h.d4 k e hk)) hf.size (fun U hU hs => hw.ward.pol U (fun k hk _ _ _ => hU k hk (by omega) (by omega) (fun e => by have := e7 k e; omega)) hs), h.ib, Nat.le_trans h.lb hK, h.d1, ⟨fun e => ?_, fun e => ?_⟩, h.d3, fun k hk e => ?_, h.d5, h.d6⟩
  · rcases hf.new _ e with h1 | h1
    · exact h.d2.1 h1
    · omega
  · rcases hf.new _ e with h1 | h1
    · exact h.d2.2 h1
    · omega
  · rcases hf.new _ hk with h1 | h1
    · exact h.d4 k h1 e
    · have := hl k e; omega
/-- The second has turned. -/
theorem TW2.second {p : POL} {g gm : Nat} {P : PV} {lv : Value} {s : WS} {g' gm' : Nat} {lv' lv2 : Value} {x x2 : WS} {K K2 : Nat} {V X Z : World} (h : TW2 p g gm P lv s g' gm' lv' x K V X) (hw : WX g' gm' P x2 lv2 Z) (hf : Fr g' gm' lv' lv2 X Z) (hi : Inv p x2) (hl2 : x2.log.length ≤ K2) (hK : K ≤ K2) : TW2 p g gm P lv s g' gm' lv2 x2 K2 V Z := by
  have a1 := h.a.ward.glt
  have a2 := h.a.ward.mlt
  have a3 := h.a.ward.bd
  have hs0 := h.a.below.size
  have hl : ∀ k, lv.ownBlock = some k → k < X.heap.size := fun k hk => (h.a.ward.own.lt k hk).2
  obtain ⟨e1, e2, e3, e4⟩ := h.d1
  obtain ⟨e5, e6, e7⟩ := h.d5
  obtain ⟨f5, f6, f7⟩ := h.d6
  have hnew : ∀ k, lv2.ownBlock = some k → lv'.ownBlock = some k ∨ X.heap.size ≤ k := hf.new
  refine ⟨⟨h.a.pol, h.a.ward.side (hf.block _ a1 (Ne.symm e1) (Ne.symm e3) h.d3.1) (hf.block _ a2 (Ne.symm e2) (Ne.symm e4) h.d3.2) (fun k hk => hf.block k (hl k hk) (fun e => h.d2.1 (by rw [← e]; exact hk)) (fun e => h.d2.2 (by rw [← e]; exact hk)) (fun e => h.d4 k hk e)) hf.size (fun U hU hs => h.a.ward.pol U (fun k hk q1 q2 q3 => (hU k hk q1 q2 q3).trans (hf.block k (by omega) (by omega) (by omega) (fun e => by have := e7 k e; omega))) hs), h.a.inv, Nat.le_trans h.a.log hK, hf.below h.a.below hs0 f5 f6 f7, h.a.g, h.a.m, h.a.l⟩, hw, hi, hl2, h.d1, h.d2, ⟨fun e => ?_, fun e => ?_⟩, fun k hk e => ?_, ⟨e5, e6, fun k hk => ?_⟩, f5, f6, fun k hk => ?_⟩
  · rcases hnew _ e with h1 | h1
    · exact h.d3.1 h1
    · omega
  · rcases hnew _ e with h1 | h1
    · exact h.d3.2 h1
    · omega
  · rcases hnew _ e with h1 | h1
    · exact h.d4 k hk h1
    · have := hl k hk; omega
  · rcases hnew _ hk with h1 | h1
    · exact e7 k h1
    · omega
  · rcases hnew _ hk with h1 | h1
    · exact f7 k h1
    · omega
theorem TW2.on {p : POL} {g gm : Nat} {P : PV} {lv : Value} {s : WS} {g' gm' : Nat} {lv' : Value} {x : WS} {K : Nat} {V X Z : World} (h : TW2 p g gm P lv s g' gm' lv' x K V X) (hb : Below X.heap.size X Z) : TW2 p g gm P lv s g' gm' lv' x K V Z :=
  ⟨h.a.on hb, h.b.on hb, h.ib, h.lb, h.d1, h.d2, h.d3, h.d4, h.d5, h.d6⟩
theorem TW2.weak {p : POL} {g gm : Nat} {P : PV} {lv : Value} {s : WS} {g' gm' : Nat} {lv' : Value} {x : WS} {K K' : Nat} {V X : World} (h : TW2 p g gm P lv s g' gm' lv' x K V X) (hk : K ≤ K') : TW2 p g gm P lv s g' gm' lv' x K' V X :=
  ⟨h.a.weak hk, h.b, h.ib, Nat.le_trans h.lb hk, h.d1, h.d2, h.d3, h.d4, h.d5, h.d6⟩
/-- An act of the first. -/
theorem TW2.did {p : POL} {g gm : Nat} {P : PV} {lv : Value} {s : WS} {g' gm' : Nat} {lv' : Value} {x : WS} {K : Nat} {V X : World} (h : TW2 p g gm P lv s g' gm' lv' x K V X) (hp : polF p = 0) (hq : PolOk p) (hK : K ≤ 900000) (y : AC) (hc : y.callOk) (hxa : y.a < 18446744073709551616) (hxs : y.s.size ≤ 200) :
    Calls Tryz.prog 9 #[.pointer (some ⟨g, 0, none⟩), .agg (acC y)] X fun e w' => e = .returned (.tuple #[]) ∧ ∃ lv2, TW2 p g gm P lv2 (didS p y s) g' gm' lv' x (K + 90) V w' := by
  obtain rfl := h.a.pol
  refine (did_any y hc hxa hxs hp hq h.a.inv h.a.ward (Nat.le_trans h.a.log hK)).mono ?_
  rintro e w' ⟨he, lv2, h1, h2⟩
  exact ⟨he, lv2, h.first (h.a.turn h1 h2 (did_inv hp hq h.a.inv (act_ok hxa hc)) (by have := did_log hp hq h.a.inv y; have := h.a.log; omega)) h2 (by omega)⟩
/-- A step of the first. -/
theorem TW2.step1 {p : POL} {g gm : Nat} {P : PV} {lv : Value} {s : WS} {g' gm' : Nat} {lv' : Value} {x : WS} {K : Nat} {V X : World} (h : TW2 p g gm P lv s g' gm' lv' x K V X) (hp : polF p = 0) (hq : PolOk p) (hK : K ≤ 900000) (n : Int) :
    Calls Tryz.prog 17 #[.pointer (some ⟨g, 0, none⟩), .int .i64 n] X fun e w' => e = .returned (.tuple #[.bool (stepW p n s).2.1, errV (stepW p n s).2.2]) ∧ ∃ lv2, TW2 p g gm P lv2 (stepW p n s).1 g' gm' lv' x (K + 1) V w' := by
  obtain rfl := h.a.pol
  refine (wstep_any n hp h.a.inv h.a.ward (by have := h.a.log; omega)).mono ?_
  rintro e w' ⟨he, lv2, h1, h2⟩
  exact ⟨he, lv2, h.first (h.a.turn h1 h2 (stepW_inv hp hq h.a.inv n) (by have := stepW_log hp h.a.inv n; have := h.a.log; omega)) h2 (by omega)⟩
/-- A step of the second. -/
theorem TW2.step2 {p : POL} {g gm : Nat} {P : PV} {lv : Value} {s : WS} {g' gm' : Nat} {lv' : Value} {x : WS} {K : Nat} {V X : World} (h : TW2 p g gm P lv s g' gm' lv' x K V X) (hp : polF p = 0) (hq : PolOk p) (hK : K ≤ 900000) (n : Int) :
    Calls Tryz.prog 17 #[.pointer (some ⟨g', 0, none⟩), .int .i64 n] X fun e w' => e = .returned (.tuple #[.bool (stepW p n x).2.1, errV (stepW p n x).2.2]) ∧ ∃ lv2, TW2 p g gm P lv s g' gm' lv2 (stepW p n x).1 (K + 1) V w' := by
  obtain rfl := h.a.pol
  refine (wstep_any n hp h.ib h.b (by have := h.lb; omega)).mono ?_
  rintro e w' ⟨he, lv2, h1, h2⟩
  exact ⟨he, lv2, h.second h1 h2 (stepW_inv hp hq h.ib n) (by have := stepW_log hp h.ib n; have := h.lb; omega) (by omega)⟩
/-- What threads do to memory is no step. -/
theorem did_late {p : POL} {n k : Nat} {s x : WS} (h : Late p n k s x) {y : AC} (ha : y.a < 18446744073709551616) (hk : (y.kind.toList == [109, 97, 112]) = true ∨ (y.kind.toList == [117, 110, 109, 97, 112]) = true ∨ (y.kind.toList == [112, 117, 116]) = true) : Late p n k (didS p y s) x := by
  unfold didS
  by_cases h1 : (y.kind.toList == [109, 97, 112]) = true
  · rw [if_pos h1]; exact late_mem h (mapW_high _ _ _).1 (mapW_high _ _ _).2
  · rw [if_neg h1]
    by_cases h2 : (y.kind.toList == [117, 110, 109, 97, 112]) = true
    · rw [if_pos h2]; exact late_mem h (unmapW_high _ _).1 (unmapW_high _ _).2
    · rw [if_neg h2, if_pos ((hk.resolve_left h1).resolve_left h2)]
      exact late_mem h (putW_high ha _ h.is.mem.fine).1 (putW_high ha _ h.is.mem.fine).2
theorem late_weak {p : POL} {n k k' : Nat} {s x : WS} (h : Late p n k s x) (hk : k ≤ k') : Late p n k' s x := ⟨h.is, h.ix, h.al, h.past, Nat.le_trans h.rk hk⟩
end Go.Proofs.YtlgghomjlhnijaaGreat

/- The walk of TopLate. -/
namespace Go.Proofs.YtlgghomjlhnijaaGreat
open Go.RowKit Mm

set_option maxHeartbeats 8000000 in
set_option maxRecDepth 100000 in
theorem topLate_any (p : POL) (oa : Option Addr) (cap : Nat) (ob : Option Addr) (nb capb : Nat) (hnb : nb ≤ 9223372036854775807) (B : Nat → AC) (n : Int) (c : KL) (hc : KlOk c) (ot : Option Addr) (nt capt : Nat) (hnt : nt ≤ 9223372036854775807) (T : Nat → AC) (w : World) (hp : IsPol oa cap p w) (hB : IsActs ob nb B w) (hT : IsActs ot nt T w) :
    Calls Tryz.prog 4 #[polV p oa cap, .slice ob nb capb, .int .i64 n, klV c, .slice ot nt capt] w fun e w' => e = .returned (.bool true) ∧ Below w.heap.size w w' := by
  obtain ⟨V, hV, hVb, hVx, hVy⟩ := two_box w #[.slice oa p.rules.length cap, .int .i64 p.els.kind, .int .i64 p.els.errno] (klC c) 26 40
  have hsz : V.heap.size = w.heap.size + 2 := by rw [hV, World.size_alloc, World.size_alloc]
  unfold klC at hV hVy
  have x0 := hVx 0
  have x1 := hVx 1
  have x2 := hVx 2
  have k0 := hVy 0
  have k1 := hVy 1
  have k2 := hVy 2
  have k3 := hVy 3
  have k4 := hVy 4
  have k5 := hVy 5
  simp only [List.getElem?_toArray, List.getElem?_cons_zero, List.getElem?_cons_succ] at x0 x1 x2 k0 k1 k2 k3 k4 k5
  have HPV := hide (hp.on hVb)
  have HBV := hide (hB.on hVb)
  have HTV := hide (hT.on hVb)
  have HLP := lightPol_any p oa cap V HPV.out
  have HLB := fun X (hX : Below V.heap.size V X) => Mm.light_any ob nb capb hnb B 40 X (HBV.out.on hX)
  have HLT := fun X (hX : Below V.heap.size V X) => Mm.light_any ot nt capt hnt T 40 X (HTV.out.on hX)
  have HNE := fun (hf : polF p ≠ 0) X (hX : Below V.heap.size V X) => new_err p hf oa cap X (HPV.out.on hX)
  have HNO := fun (hf : polF p = 0) X (hX : Below V.heap.size V X) => new_ok p hf oa cap X (HPV.out.on hX)
  have HPQ := hide (show ∀ hf : polF p = 0, PolOk p from fun hf => pol_ok hf hp.ok)
  have HVB := hide hVb
  obtain ⟨np, hnp⟩ : ∃ n, n = p.rules.length := ⟨_, rfl⟩
  obtain ⟨lz, hlz⟩ : ∃ z, z = lightB p := ⟨_, rfl⟩
  rw [← hlz] at HLP
  unfold polV at HLP HNE HNO ⊢
  simp only [← hnp] at hV x0 HLP HNE HNO ⊢
  obtain ⟨ak, hak⟩ : ∃ n, n = p.els.kind := ⟨_, rfl⟩
  obtain ⟨ae, hae⟩ : ∃ n, n = p.els.errno := ⟨_, rfl⟩
  simp only [← hak, ← hae] at hV x1 x2 HLP HNE HNO ⊢
  unfold klV klC
  clear hVx hVy hp hB hT hVb hnp hlz hak hae
  go_enter Tryz.func4, Tryz.ntmps4
  go_wp2_with fail
  rw [← hV]
  clear hV
  refine HLP.mono ?_
  rintro e W1 ⟨rfl, hb1⟩
  have H1 := hide hb1
  clear HLP hb1
  cases lz with
  | false => as_aux_lemma =>
    go_wp2
    go_ret
    exact ⟨rfl, below_next HVB.out H1.out⟩
  | true =>
    go_wp2_with fail
    refine (HLB W1 H1.out).mono ?_
    rintro e W2 ⟨rfl, hw⟩
    rw [hw]
    clear hw
    cases hlb : Mm.lightR nb B 40 with
    | false => as_aux_lemma =>
      go_wp2
      go_ret
      exact ⟨rfl, below_next HVB.out H1.out⟩
    | true =>
      go_wp2_with fail
      refine (HLT W1 H1.out).mono ?_
      rintro e W2 ⟨rfl, hw⟩
      rw [hw]
      clear hw
      cases hlt : Mm.lightR nt T 40 with
      | false => as_aux_lemma =>
        go_wp2
        go_ret
        exact ⟨rfl, below_next HVB.out H1.out⟩
      | true =>
        replace x0 := keep_cell H1.out x0
        replace x1 := keep_cell H1.out x1
        replace x2 := keep_cell H1.out x2
        by_cases hf : polF p = 0
        · have HN := HNO hf W1 H1.out
          have HQ := HPQ.out hf
          have HLI := hide (And.intro (Mm.light_spec hlb) (Mm.light_spec hlt))
          clear HNE HNO HPQ HLB HLT hlb hlt
          go_wp2_with fail
          refine HN.mono ?_
          rintro e W3 ⟨g, gm, P, rfl, hN⟩
          have HW0 := hide (WL.start hN H1.out)
          clear hN HN H1 x0 x1 x2
          go_wp2
          go_loopw [13] (fun I w' => ∃ (i : Nat) (lv : Value) (s : WS), i ≤ nb ∧ I = .int .i64 i ∧ Hid (WL p g gm P lv s (i * 90) V w')) (fun I _ => nb - (intOf I).toNat)
          case atStart => exact ⟨0, _, _, by omega, rfl, HW0⟩
          case round =>
            obtain ⟨i, lv, s, hi, rfl, HX⟩ := hrel
            clear HW0
            have hnb40 : nb ≤ 40 := by have := HLI.out.1.1; omega
            have i1 : (0 : Int) ≤ i := by omega
            by_cases hlt : i < nb
            · as_aux_lemma =>
              obtain ⟨b, off, rfl, hA⟩ := acts_at HBV.out HX.out.below hlt
              have HD := HX.out.did hf HQ (by omega) (B i) hA.cOk hA.aLt (HLI.out.1.2 i hlt)
              unfold acC at HD
              have c0 := hA.k0
              have c1 := hA.k1
              have c2 := hA.k2
              have c3 := hA.k3
              have c4 := hA.k4
              have c5 := hA.k5
              have c6 := hA.k6
              have c7 := hA.k7
              have c8 := hA.k8
              have c9 := hA.k9
              have c10 := hA.k10
              have i2 : (i : Int) < nb := by omega
              obtain ⟨x, hx⟩ : ∃ x, x = B i := ⟨_, rfl⟩
              rw [← hx] at c0 c1 c2 c3 c4 c5 c6 c7 c8 c9 c10 HD
              clear hA hx
              go_wp2_with fail
              refine HD.mono ?_
              rintro e w' ⟨rfl, lv', h1⟩
              go_wp2
              go_round
              case rel => exact ⟨i + 1, lv', _, by omega, by go_num, hide (h1.weak (by omega))⟩
              case measure => simp [intOf]; omega
            · have i2 : ¬ ((i : Int) < nb) := by omega
              have HX1 := hide (HX.out.weak (show i * 90 ≤ 3600 by omega))
              clear hlt HX
              have HEN := entered_any HX1.out hf HQ (by omega) n hc
              have q0 := keep_cell HX1.out.below k0
              have q1 := keep_cell HX1.out.below k1
              have q2 := keep_cell HX1.out.below k2
              have q3 := keep_cell HX1.out.below k3
              have q4 := keep_cell HX1.out.below k4
              have q5 := keep_cell HX1.out.below k5
              unfold klV klC at HEN
              go_wp2_with fail
              refine HEN.mono ?_
              rintro e w1 ⟨bl, lv1, s1, rfl, h1, hin⟩
              have HX2 := hide h1
              have HIN := hide hin
              clear HEN h1 hin HX1 q0 q1 q2 q3 q4 q5 i2
              cases bl with
              | false => as_aux_lemma =>
                go_wp2
                go_ret
                exact ⟨rfl, below_next HVB.out HX2.out.below⟩
              | true =>
                obtain ⟨hn0, hn3, hphs⟩ := HIN.out rfl
                obtain ⟨m, rfl⟩ : ∃ k : Nat, n = k := ⟨n.toNat, by omega⟩
                have hm : m < 3 := by omega
                rw [Int.toNat_natCast] at hphs
                have HL0 := hide (late_start HX2.out.inv hphs)
                have HCP := wcopy_any HX2.out.ward (by have := HX2.out.log; omega)
                clear HIN hphs hn0 hn3
                go_wp2_with fail
                refine HCP.mono ?_
                rintro e w2 ⟨g2, gm2, lv2, rfl, hC⟩
                have HT0 := hide (TW2.start HX2.out hC)
                have hnt40 : nt ≤ 40 := by have := HLI.out.2.1; omega
                clear hC HCP HX2
                go_wp2
                go_loopw [16] (fun I w' => ∃ (i : Nat) (lv : Value) (s : WS) (lv' : Value) (x : WS), i ≤ nt ∧ I = .int .i64 i ∧ Hid (TW2 p g gm P lv s g2 gm2 lv' x (3690 + i * 92) V w') ∧ Hid (Late p m 3 s x)) (fun I _ => nt - (intOf I).toNat)
                case atStart => exact ⟨0, _, _, _, _, by omega, rfl, HT0, HL0⟩
                case round =>
                  obtain ⟨i, lvA, sA, lvB, xB, hint, rfl, HT, HLA⟩ := hrel
                  clear HT0 HL0
                  have t1 : (0 : Int) ≤ i := by omega
                  by_cases hit : i < nt
                  · have t2 : (i : Int) < nt := by omega
                    obtain ⟨b, off, rfl, hA⟩ := acts_at HTV.out HT.out.a.below hit
                    have HD := HT.out.did hf HQ (by omega) (T i) hA.cOk hA.aLt (HLI.out.2.2 i hit)
                    unfold acC at HD
                    have haL := hA.aLt
                    have c0 := hA.k0
                    have c1 := hA.k1
                    have c2 := hA.k2
                    have c3 := hA.k3
                    have c4 := hA.k4
                    have c5 := hA.k5
                    have c6 := hA.k6
                    have c7 := hA.k7
                    have c8 := hA.k8
                    have c9 := hA.k9
                    have c10 := hA.k10
                    obtain ⟨y, hy⟩ : ∃ y, y = T i := ⟨_, rfl⟩
                    rw [← hy] at c0 c1 c2 c3 c4 c5 c6 c7 c8 c9 c10 HD haL
                    clear hA hy
                    by_cases hkk : (y.kind.toList == [109, 97, 112]) = true ∨ (y.kind.toList == [117, 110, 109, 97, 112]) = true ∨ (y.kind.toList == [112, 117, 116]) = true
                    · have HLB := hide (did_late HLA.out haL hkk)
                      obtain ⟨sD, hsD⟩ : ∃ z, z = didS p y sA := ⟨_, rfl⟩
                      rw [← hsD] at HD HLB
                      clear hsD
                      cases k1' : (y.kind.toList == [109, 97, 112]) with
                      | true => as_aux_lemma =>
                        go_wp2_with fail
                        refine HD.mono ?_
                        rintro e w4 ⟨rfl, lv4, h4⟩
                        have HT4 := hide h4
                        clear h4 HD
                        by_cases h83 : i % 8 = 3
                        · have r8 : (((i : Int).tmod 8) == 3) = true := by rw [Int.tmod_eq_emod_of_nonneg (by omega)]; simp; omega
                          have HS1 := HT4.out.step1 hf HQ (by omega) (m : Int)
                          obtain ⟨⟨s5, sb5, sf5⟩, hr5⟩ : ∃ r, r = stepW p m sD := ⟨_, rfl⟩
                          rw [← hr5] at HS1
                          simp only at HS1
                          obtain ⟨er5, her5⟩ : ∃ er, er = errV sf5 := ⟨_, rfl⟩
                          rw [← her5] at HS1
                          have HR5 := hide hr5
                          clear hr5 her5
                          go_wp2_with fail
                          refine HS1.mono ?_
                          rintro e w5 ⟨rfl, lv5, h5⟩
                          have HT5 := hide h5
                          have HS2 := HT5.out.step2 hf HQ (by omega) (m : Int)
                          have HL5 := hide (late_step hf HQ hm HLB.out)
                          rw [← HR5.out] at HL5
                          obtain ⟨⟨x6, sb6, sf6⟩, hr6⟩ : ∃ r, r = stepW p m xB := ⟨_, rfl⟩
                          rw [← hr6] at HS2 HL5
                          simp only at HS2 HL5
                          obtain ⟨er6, her6⟩ : ∃ er, er = errV sf6 := ⟨_, rfl⟩
                          rw [← her6] at HS2
                          clear h5 hr6 her6 HS1
                          go_wp2_with fail
                          refine HS2.mono ?_
                          rintro e w6 ⟨rfl, lv6, h6⟩
                          have HL6 := hide HL5.out
                          go_wp2
                          go_round
                          case rel => exact ⟨i + 1, lv5, s5, lv6, x6, by omega, by go_num, hide (h6.weak (by omega)), hide (late_weak HL6.out (by omega))⟩
                          case measure => simp [intOf]; omega
                        · have r8 : (((i : Int).tmod 8) == 3) = false := by rw [Int.tmod_eq_emod_of_nonneg (by omega)]; simp; omega
                          go_wp2
                          go_round
                          case rel => exact ⟨i + 1, lv4, sD, _, _, by omega, by go_num, hide (HT4.out.weak (by omega)), HLB⟩
                          case measure => simp [intOf]; omega
                      | false =>
                        cases k2' : (y.kind.toList == [117, 110, 109, 97, 112]) with
                        | true => as_aux_lemma =>
                          go_wp2_with fail
                          refine HD.mono ?_
                          rintro e w4 ⟨rfl, lv4, h4⟩
                          have HT4 := hide h4
                          clear h4 HD
                          by_cases h83 : i % 8 = 3
                          · have r8 : (((i : Int).tmod 8) == 3) = true := by rw [Int.tmod_eq_emod_of_nonneg (by omega)]; simp; omega
                            have HS1 := HT4.out.step1 hf HQ (by omega) (m : Int)
                            obtain ⟨⟨s5, sb5, sf5⟩, hr5⟩ : ∃ r, r = stepW p m sD := ⟨_, rfl⟩
                            rw [← hr5] at HS1
                            simp only at HS1
                            obtain ⟨er5, her5⟩ : ∃ er, er = errV sf5 := ⟨_, rfl⟩
                            rw [← her5] at HS1
                            have HR5 := hide hr5
                            clear hr5 her5
                            go_wp2_with fail
                            refine HS1.mono ?_
                            rintro e w5 ⟨rfl, lv5, h5⟩
                            have HT5 := hide h5
                            have HS2 := HT5.out.step2 hf HQ (by omega) (m : Int)
                            have HL5 := hide (late_step hf HQ hm HLB.out)
                            rw [← HR5.out] at HL5
                            obtain ⟨⟨x6, sb6, sf6⟩, hr6⟩ : ∃ r, r = stepW p m xB := ⟨_, rfl⟩
                            rw [← hr6] at HS2 HL5
                            simp only at HS2 HL5
                            obtain ⟨er6, her6⟩ : ∃ er, er = errV sf6 := ⟨_, rfl⟩
                            rw [← her6] at HS2
                            clear h5 hr6 her6 HS1
                            go_wp2_with fail
                            refine HS2.mono ?_
                            rintro e w6 ⟨rfl, lv6, h6⟩
                            have HL6 := hide HL5.out
                            go_wp2
                            go_round
                            case rel => exact ⟨i + 1, lv5, s5, lv6, x6, by omega, by go_num, hide (h6.weak (by omega)), hide (late_weak HL6.out (by omega))⟩
                            case measure => simp [intOf]; omega
                          · have r8 : (((i : Int).tmod 8) == 3) = false := by rw [Int.tmod_eq_emod_of_nonneg (by omega)]; simp; omega
                            go_wp2
                            go_round
                            case rel => exact ⟨i + 1, lv4, sD, _, _, by omega, by go_num, hide (HT4.out.weak (by omega)), HLB⟩
                            case measure => simp [intOf]; omega
                        | false =>
                          cases k3' : (y.kind.toList == [112, 117, 116]) with
                          | true => as_aux_lemma =>
                            go_wp2_with fail
                            refine HD.mono ?_
                            rintro e w4 ⟨rfl, lv4, h4⟩
                            have HT4 := hide h4
                            clear h4 HD
                            by_cases h83 : i % 8 = 3
                            · have r8 : (((i : Int).tmod 8) == 3) = true := by rw [Int.tmod_eq_emod_of_nonneg (by omega)]; simp; omega
                              have HS1 := HT4.out.step1 hf HQ (by omega) (m : Int)
                              obtain ⟨⟨s5, sb5, sf5⟩, hr5⟩ : ∃ r, r = stepW p m sD := ⟨_, rfl⟩
                              rw [← hr5] at HS1
                              simp only at HS1
                              obtain ⟨er5, her5⟩ : ∃ er, er = errV sf5 := ⟨_, rfl⟩
                              rw [← her5] at HS1
                              have HR5 := hide hr5
                              clear hr5 her5
                              go_wp2_with fail
                              refine HS1.mono ?_
                              rintro e w5 ⟨rfl, lv5, h5⟩
                              have HT5 := hide h5
                              have HS2 := HT5.out.step2 hf HQ (by omega) (m : Int)
                              have HL5 := hide (late_step hf HQ hm HLB.out)
                              rw [← HR5.out] at HL5
                              obtain ⟨⟨x6, sb6, sf6⟩, hr6⟩ : ∃ r, r = stepW p m xB := ⟨_, rfl⟩
                              rw [← hr6] at HS2 HL5
                              simp only at HS2 HL5
                              obtain ⟨er6, her6⟩ : ∃ er, er = errV sf6 := ⟨_, rfl⟩
                              rw [← her6] at HS2
                              clear h5 hr6 her6 HS1
                              go_wp2_with fail
                              refine HS2.mono ?_
                              rintro e w6 ⟨rfl, lv6, h6⟩
                              have HL6 := hide HL5.out
                              go_wp2
                              go_round
                              case rel => exact ⟨i + 1, lv5, s5, lv6, x6, by omega, by go_num, hide (h6.weak (by omega)), hide (late_weak HL6.out (by omega))⟩
                              case measure => simp [intOf]; omega
                            · have r8 : (((i : Int).tmod 8) == 3) = false := by rw [Int.tmod_eq_emod_of_nonneg (by omega)]; simp; omega
                              go_wp2
                              go_round
                              case rel => exact ⟨i + 1, lv4, sD, _, _, by omega, by go_num, hide (HT4.out.weak (by omega)), HLB⟩
                              case measure => simp [intOf]; omega
                          | false =>
                            rw [k1', k2', k3'] at hkk
                            simp at hkk
                    · have k1' : (y.kind.toList == [109, 97, 112]) = false := Bool.eq_false_iff.2 fun h => hkk (.inl h)
                      have k2' : (y.kind.toList == [117, 110, 109, 97, 112]) = false := Bool.eq_false_iff.2 fun h => hkk (.inr (.inl h))
                      have k3' : (y.kind.toList == [112, 117, 116]) = false := Bool.eq_false_iff.2 fun h => hkk (.inr (.inr h))
                      clear hkk HD
                      by_cases h83 : i % 8 = 3
                      · as_aux_lemma =>
                        have r8 : (((i : Int).tmod 8) == 3) = true := by rw [Int.tmod_eq_emod_of_nonneg (by omega)]; simp; omega
                        have HS1 := HT.out.step1 hf HQ (by omega) (m : Int)
                        obtain ⟨⟨s5, sb5, sf5⟩, hr5⟩ : ∃ r, r = stepW p m sA := ⟨_, rfl⟩
                        rw [← hr5] at HS1
                        simp only at HS1
                        obtain ⟨er5, her5⟩ : ∃ er, er = errV sf5 := ⟨_, rfl⟩
                        rw [← her5] at HS1
                        have HR5 := hide hr5
                        clear hr5 her5
                        go_wp2_with fail
                        refine HS1.mono ?_
                        rintro e w5 ⟨rfl, lv5, h5⟩
                        have HT5 := hide h5
                        have HS2 := HT5.out.step2 hf HQ (by omega) (m : Int)
                        have HL5 := hide (late_step hf HQ hm HLA.out)
                        rw [← HR5.out] at HL5
                        obtain ⟨⟨x6, sb6, sf6⟩, hr6⟩ : ∃ r, r = stepW p m xB := ⟨_, rfl⟩
                        rw [← hr6] at HS2 HL5
                        simp only at HS2 HL5
                        obtain ⟨er6, her6⟩ : ∃ er, er = errV sf6 := ⟨_, rfl⟩
                        rw [← her6] at HS2
                        clear h5 hr6 her6 HS1
                        go_wp2_with fail
                        refine HS2.mono ?_
                        rintro e w6 ⟨rfl, lv6, h6⟩
                        have HL6 := hide HL5.out
                        go_wp2
                        go_round
                        case rel => exact ⟨i + 1, lv5, s5, lv6, x6, by omega, by go_num, hide (h6.weak (by omega)), hide (late_weak HL6.out (by omega))⟩
                        case measure => simp [intOf]; omega
                      · as_aux_lemma =>
                        have r8 : (((i : Int).tmod 8) == 3) = false := by rw [Int.tmod_eq_emod_of_nonneg (by omega)]; simp; omega
                        go_wp2
                        go_round
                        case rel => exact ⟨i + 1, _, _, _, _, by omega, by go_num, hide (HT.out.weak (by omega)), HLA⟩
                        case measure => simp [intOf]; omega
                  · have t2 : ¬ ((i : Int) < nt) := by omega
                    have HT1 := hide (HT.out.weak (show 3690 + i * 92 ≤ 7370 by omega))
                    clear hit HT
                    go_wp2
                    go_loopw [17] (fun I w' => ∃ (k : Nat) (lv : Value) (s : WS) (lv' : Value) (x : WS), k ≤ 3 ∧ I = .int .i64 k ∧ Hid (TW2 p g gm P lv s g2 gm2 lv' x (7370 + k * 2) V w') ∧ Hid (Late p m (3 - k) s x)) (fun I _ => 3 - (intOf I).toNat)
                    case atStart => exact ⟨0, _, _, _, _, by omega, rfl, HT1, HLA⟩
                    case round =>
                      obtain ⟨k, lvZ, sZ, lvY, xZ, hk3, rfl, HT, HLZ⟩ := hrel
                      clear HT1 HLA
                      by_cases hkl : k < 3
                      · as_aux_lemma =>
                        have e3 : (k : Int) < 3 := by omega
                        have HS1 := HT.out.step1 hf HQ (by omega) (m : Int)
                        obtain ⟨⟨s5, sb5, sf5⟩, hr5⟩ : ∃ r, r = stepW p m sZ := ⟨_, rfl⟩
                        rw [← hr5] at HS1
                        simp only at HS1
                        obtain ⟨er5, her5⟩ : ∃ er, er = errV sf5 := ⟨_, rfl⟩
                        rw [← her5] at HS1
                        have HR5 := hide hr5
                        clear hr5 her5
                        go_wp2_with fail
                        refine HS1.mono ?_
                        rintro e w5 ⟨rfl, lv5, h5⟩
                        have HT5 := hide h5
                        have HS2 := HT5.out.step2 hf HQ (by omega) (m : Int)
                        have HL5 := hide (late_step hf HQ hm HLZ.out)
                        rw [← HR5.out] at HL5
                        obtain ⟨⟨x6, sb6, sf6⟩, hr6⟩ : ∃ r, r = stepW p m xZ := ⟨_, rfl⟩
                        rw [← hr6] at HS2 HL5
                        simp only at HS2 HL5
                        obtain ⟨er6, her6⟩ : ∃ er, er = errV sf6 := ⟨_, rfl⟩
                        rw [← her6] at HS2
                        clear h5 hr6 her6 HS1
                        go_wp2_with fail
                        refine HS2.mono ?_
                        rintro e w6 ⟨rfl, lv6, h6⟩
                        have HL6 := hide HL5.out
                        go_wp2
                        go_round
                        case rel => exact ⟨k + 1, lv5, s5, lv6, x6, by omega, by go_num, hide (h6.weak (by omega)), hide (late_weak HL6.out (by omega))⟩
                        case measure => simp [intOf]; omega
                      · obtain rfl : k = 3 := by omega
                        have HEND := hide (late_end hm HLZ.out)
                        clear HLZ
                        rcases HEND.out.1 with hphz | hphz
                        · as_aux_lemma =>
                          have HPA := HT.out.a.phase (m : Int)
                          have HPB := wphase_any (m : Int) HT.out.b
                          rw [phase_of hm, hphz] at HPA
                          rw [phase_of hm, HEND.out.2.1, hphz] at HPB
                          go_wp2_with fail
                          refine HPA.mono ?_
                          rintro e w' ⟨rfl, hw⟩
                          rw [hw]
                          clear hw
                          go_wp2_with fail
                          refine HPB.mono ?_
                          rintro e w' ⟨rfl, hw⟩
                          rw [hw]
                          clear hw
                          go_wp2_with fail
                          refine HPA.mono ?_
                          rintro e w' ⟨rfl, hw⟩
                          rw [hw]
                          clear hw
                          have HGA := HT.out.a.logs (by omega)
                          clear HPA HPB
                          go_wp2_with fail
                          refine HGA.mono ?_
                          rintro e w7 ⟨rfl, hr7, hb7⟩
                          have HT7 := hide (HT.out.on hb7)
                          have HGB := wlog_any HT7.out.b (by have := HT7.out.lb; omega)
                          rw [HEND.out.2.2] at HGB
                          have H7 := hide hr7
                          obtain ⟨r7, hr7'⟩ : ∃ y, y = wr.heap.size := ⟨_, rfl⟩
                          rw [← hr7'] at H7
                          rw [← hr7']
                          clear hr7 hb7 HGA hr7'
                          go_wp2_with fail
                          refine HGB.mono ?_
                          rintro e w8 ⟨rfl, hr8, hb8⟩
                          have HSL := sameLog_any sZ.log r7 w7.heap.size w8 ((hb8.block _ (Array.getElem?_eq_some_iff.1 H7.out).1).trans H7.out) hr8 (by have := HT7.out.a.log; omega)
                          have HT8 := hide (HT7.out.on hb8)
                          clear hr8 hb8 HGB
                          go_wp2_with fail
                          refine HSL.mono ?_
                          rintro e w9 ⟨rfl, hb9⟩
                          go_wp2
                          go_ret
                          exact ⟨rfl, below_next (below_next HVB.out HT8.out.a.below) hb9⟩
                        · as_aux_lemma =>
                          have HPA := HT.out.a.phase (m : Int)
                          have HPB := wphase_any (m : Int) HT.out.b
                          rw [phase_of hm, hphz] at HPA
                          rw [phase_of hm, HEND.out.2.1, hphz] at HPB
                          go_wp2_with fail
                          refine HPA.mono ?_
                          rintro e w' ⟨rfl, hw⟩
                          rw [hw]
                          clear hw
                          go_wp2_with fail
                          refine HPB.mono ?_
                          rintro e w' ⟨rfl, hw⟩
                          rw [hw]
                          clear hw
                          go_wp2_with fail
                          refine HPA.mono ?_
                          rintro e w' ⟨rfl, hw⟩
                          rw [hw]
                          clear hw
                          go_wp2_with fail
                          refine HPA.mono ?_
                          rintro e w' ⟨rfl, hw⟩
                          rw [hw]
                          clear hw
                          have HGA := HT.out.a.logs (by omega)
                          clear HPA HPB
                          go_wp2_with fail
                          refine HGA.mono ?_
                          rintro e w7 ⟨rfl, hr7, hb7⟩
                          have HT7 := hide (HT.out.on hb7)
                          have HGB := wlog_any HT7.out.b (by have := HT7.out.lb; omega)
                          rw [HEND.out.2.2] at HGB
                          have H7 := hide hr7
                          obtain ⟨r7, hr7'⟩ : ∃ y, y = wr.heap.size := ⟨_, rfl⟩
                          rw [← hr7'] at H7
                          rw [← hr7']
                          clear hr7 hb7 HGA hr7'
                          go_wp2_with fail
                          refine HGB.mono ?_
                          rintro e w8 ⟨rfl, hr8, hb8⟩
                          have HSL := sameLog_any sZ.log r7 w7.heap.size w8 ((hb8.block _ (Array.getElem?_eq_some_iff.1 H7.out).1).trans H7.out) hr8 (by have := HT7.out.a.log; omega)
                          have HT8 := hide (HT7.out.on hb8)
                          clear hr8 hb8 HGB
                          go_wp2_with fail
                          refine HSL.mono ?_
                          rintro e w9 ⟨rfl, hb9⟩
                          go_wp2
                          go_ret
                          exact ⟨rfl, below_next (below_next HVB.out HT8.out.a.below) hb9⟩
        · as_aux_lemma =>
          have HN := HNE hf W1 H1.out
          rw [errV_pos hf] at HN
          clear HNE HNO HPQ HLB HLT hlb hlt hf
          go_wp2_with fail
          refine HN.mono ?_
          rintro e W3 ⟨rfl, hb3⟩
          go_wp2
          go_ret
          exact ⟨rfl, below_next (below_next HVB.out H1.out) hb3⟩
end Go.Proofs.YtlgghomjlhnijaaGreat

/- The last step of a law's row: what 'post' asks, out of 'Below' (nothing that was there has turned), without the limb on frozen cells that 'again' alone wants. -/
namespace Go.Proofs.YtlgghomjlhnijaaGreat
open Go.ChangeShapes Go.WideShapes Go.ChangeAt Go.RowKit

theorem post_law {H : Type} {enc : TypeId × Value → H} {P : Program} {f : Func} {s : ChangeSpec} {apart fresh handsOn : Bool} {W W' : World} {args : Array Value} {v : Value} {ds gs : List (DataW H)} {before pa pv : List MemPlace}
    (hW : DataW.Whole enc P f.params.toList s.vars apart W args.toList ds gs before)
    (hres : ∀ (b : Nat) (sp : Nat → Bool) (hd : Bool), DataW.TrodAll enc P W' b sp hd f.resultTypes.toList (v.resultList f.resultTypes.size) (s.fn H (ds ++ gs)).results [])
    (hargs : ∀ sp : Nat → Bool, (∀ p ∈ before, sp p.block = true) → DataW.TrodAll enc P W' 0 sp true f.params.toList args.toList (s.fn H (ds ++ gs)).args pa)
    (hvars : ∀ sp : Nat → Bool, (∀ p ∈ before, sp p.block = true) → DataW.TrodVars enc P W' sp s.vars (s.fn H (ds ++ gs)).vars pv)
    (hps : before = pa ++ pv) (hk : Below W.heap.size W W') :
    s.post enc P f apart fresh handsOn false W args v W' := by
  have hold : ∀ p ∈ before, (fun b => decide (b < W.heap.size)) p.block = true := fun p hp => by simpa using hW.lt p hp
  refine ⟨ds, gs, before, [], pa, pv, hW, hres _ _ _, hargs _ hold, hvars _ hold, World.keptBut_mono (fun p hp => ⟨hp, ?_⟩) (hk.frame (· ∈ before)), fun h => by cases h⟩
  rw [hps, List.mem_append] at hp
  exact Or.inr hp
end Go.Proofs.YtlgghomjlhnijaaGreat

/- What the rows over slices of structs need besides: the last step, and cells of elements. -/
namespace Go.Proofs.YtlgghomjlhnijaaGreat
open Go.ChangeShapes Go.WideShapes Go.ChangeAt Go.RowKit Go.WideMaps Go.WideElems

theorem own : ownKnob Tryz.prog.godebug = none := by kernel_rfl
theorem laidOut : laidOutB Tryz.prog = true := by kernel_rfl

/-- 'post_law', the arguments read again under the one mode that is asked. -/
theorem post_law' {H : Type} {enc : TypeId × Value → H} {P : Program} {f : Func} {s : ChangeSpec} {apart fresh handsOn : Bool} {W W' : World} {args : Array Value} {v : Value} {ds gs : List (DataW H)} {before pa pv : List MemPlace}
    (hW : DataW.Whole enc P f.params.toList s.vars apart W args.toList ds gs before)
    (hres : ∀ (b : Nat) (sp : Nat → Bool) (hd : Bool), DataW.TrodAll enc P W' b sp hd f.resultTypes.toList (v.resultList f.resultTypes.size) (s.fn H (ds ++ gs)).results [])
    (hargs : DataW.TrodAll enc P W' 0 (fun b => decide (b < W.heap.size)) true f.params.toList args.toList (s.fn H (ds ++ gs)).args pa)
    (hvars : ∀ sp : Nat → Bool, (∀ p ∈ before, sp p.block = true) → DataW.TrodVars enc P W' sp s.vars (s.fn H (ds ++ gs)).vars pv)
    (hps : before = pa ++ pv) (hk : Below W.heap.size W W') :
    s.post enc P f apart fresh handsOn false W args v W' := by
  have hold : ∀ p ∈ before, (fun b => decide (b < W.heap.size)) p.block = true := fun p hp => by simpa using hW.lt p hp
  refine ⟨ds, gs, before, [], pa, pv, hW, hres _ _ _, hargs, hvars _ hold, World.keptBut_mono (fun p hp => ⟨hp, ?_⟩) (hk.frame (· ∈ before)), fun h => by cases h⟩
  rw [hps, List.mem_append] at hp
  exact Or.inr hp

theorem u64_wf {n : Int} (h : (Lit.int .u64 n).wf = true) : ∃ k : Nat, n = k ∧ k < 18446744073709551616 := by
  simp [Lit.wf, IntKind.min, IntKind.max, IntKind.signed, IntKind.bits] at h
  exact ⟨n.toNat, by omega, by omega⟩
theorem i64_wf {n : Int} (h : (Lit.int .i64 n).wf = true) : -9223372036854775808 ≤ n ∧ n ≤ 9223372036854775807 := by
  simp [Lit.wf, IntKind.min, IntKind.max, IntKind.signed, IntKind.bits] at h
  omega

theorem u32_wf {n : Int} (h : (Lit.int .u32 n).wf = true) : ∃ k : Nat, n = k ∧ k < 4294967296 := by
  simp [Lit.wf, IntKind.min, IntKind.max, IntKind.signed, IntKind.bits] at h
  exact ⟨n.toNat, by omega, by omega⟩

/-- The cells of element i of a slice at a plain address. -/
theorem elem_cells {w : World} {b off k i : Nat} {cs : List Value} (h : w.cells? 0 ((⟨b, off, none⟩ : Addr).add (i * k)) k = some cs) (j : Nat) (hj : j < k) : w.cell? ⟨b, off + i * k + j, none⟩ = cs[j]? := by
  have hc := (World.cells?_some h).2.2 j hj
  rw [Go.Deep.add_add, add_plain] at hc
  rw [show off + i * k + j = off + (i * k + j) by omega]
  exact hc

end Go.Proofs.YtlgghomjlhnijaaGreat

/- Acts that came in, opened. -/
namespace Go.Proofs.YtlgghomjlhnijaaGreat.Bp
end Go.Proofs.YtlgghomjlhnijaaGreat.Bp
namespace Go.Proofs.YtlgghomjlhnijaaGreat.Mm
open Go.Proofs.YtlgghomjlhnijaaGreat.Bp
open Go.ChangeShapes Go.WideShapes Go.ChangeAt Go.RowKit Go.WideMaps Go.WideElems
open Go.ChangeMaps (open_string shut_string)

theorem act_fields : ∃ f0 f1 f2 f3 f4 f5 : Field, Tryz.prog.underlying 42 = some (.struct #[f0, f1, f2, f3, f4, f5]) ∧ (f0.type = 9 ∧ f1.type = 3 ∧ f2.type = 36 ∧ f3.type = 9 ∧ f4.type = 4 ∧ f5.type = 40) ∧ (f0.offset = 0 ∧ f1.offset = 1 ∧ f2.offset = 2 ∧ f3.offset = 3 ∧ f4.offset = 4 ∧ f5.offset = 5) :=
  ⟨_, _, _, _, _, _, Tryz.underlying42, ⟨by kernel_rfl, by kernel_rfl, by kernel_rfl, by kernel_rfl, by kernel_rfl, by kernel_rfl⟩, by kernel_rfl, by kernel_rfl, by kernel_rfl, by kernel_rfl, by kernel_rfl, by kernel_rfl⟩
theorem cells_act : Tryz.prog.cellsOf 42 = 11 := by kernel_rfl
theorem cells_str : Tryz.prog.cellsOf 9 = 1 := by kernel_rfl
theorem cells_int : Tryz.prog.cellsOf 3 = 1 := by kernel_rfl
theorem cells_u64 : Tryz.prog.cellsOf 36 = 1 := by kernel_rfl
theorem cells_bool : Tryz.prog.cellsOf 4 = 1 := by kernel_rfl

theorem list11 {α : Type} {l : List α} (h : l.length = 11) : ∃ a0 a1 a2 a3 a4 a5 a6 a7 a8 a9 a10, l = [a0, a1, a2, a3, a4, a5, a6, a7, a8, a9, a10] := by
  match l, h with
  | [a0, a1, a2, a3, a4, a5, a6, a7, a8, a9, a10], _ => exact ⟨a0, a1, a2, a3, a4, a5, a6, a7, a8, a9, a10, rfl⟩

theorem cells_callA : Tryz.prog.cellsOf 40 = 6 := by kernel_rfl
theorem cells_u32A : Tryz.prog.cellsOf 37 = 1 := by kernel_rfl
theorem cells_arrA : Tryz.prog.cellsOf 38 = 4 := by kernel_rfl
theorem call_fieldsA : ∃ f0 f1 f2 : Field, Tryz.prog.underlying 40 = some (.struct #[f0, f1, f2]) ∧ (f0.type = 37 ∧ f1.type = 37 ∧ f2.type = 38) ∧ (f0.offset = 0 ∧ f1.offset = 1 ∧ f2.offset = 2) :=
  ⟨_, _, _, Tryz.underlying40, ⟨by kernel_rfl, by kernel_rfl, by kernel_rfl⟩, by kernel_rfl, by kernel_rfl, by kernel_rfl⟩
theorem list6 {α : Type} {l : List α} (h : l.length = 6) : ∃ a0 a1 a2 a3 a4 a5, l = [a0, a1, a2, a3, a4, a5] := by
  match l, h with
  | [a0, a1, a2, a3, a4, a5], _ => exact ⟨a0, a1, a2, a3, a4, a5, rfl⟩
set_option maxRecDepth 100000 in
/-- A call that is read, its cells. -/
theorem call_read {H : Type} {enc : TypeId × Value → H} {w : World} {base : Nat} {spare : Nat → Bool} {held : Bool} {n : Nat} {cs : List Value} {x : DataW H × List MemPlace} (h : DataW.trod enc Tryz.prog w base spare held n 40 cs = some x) :
    ∃ z0 z1 z2 z3 z4 z5 : Int, cs = [.int .u32 z0, .int .u32 z1, .int .u64 z2, .int .u64 z3, .int .u64 z4, .int .u64 z5] ∧ (0 ≤ z0 ∧ z0 < 4294967296) ∧ (0 ≤ z1 ∧ z1 < 4294967296) ∧ (0 ≤ z2 ∧ z2 < 18446744073709551616) ∧ (0 ≤ z3 ∧ z3 < 18446744073709551616) ∧ (0 ≤ z4 ∧ z4 < 18446744073709551616) ∧ (0 ≤ z5 ∧ z5 < 18446744073709551616) := by
  obtain ⟨f0, f1, f2, hu, ⟨t0, t1, t2⟩, o0, o1, o2⟩ := call_fieldsA
  obtain ⟨xs, m, _, _, hl, hlen, hf⟩ := DataW.trod_struct hu h
  rw [cells_callA] at hl
  obtain ⟨a0, a1, a2, a3, a4, a5, rfl⟩ := list6 hl
  have g0 := hf 0 f0 rfl
  have g1 := hf 1 f1 rfl
  have g2 := hf 2 f2 rfl
  have hlt : xs.length = 3 := hlen
  rw [t0, o0, cells_u32A, List.getElem?_eq_getElem (by omega)] at g0
  rw [t1, o1, cells_u32A, List.getElem?_eq_getElem (by omega)] at g1
  rw [t2, o2, cells_arrA, List.getElem?_eq_getElem (by omega)] at g2
  obtain ⟨s0, q0, _, w0⟩ := DataW.trod_int Tryz.underlying37 g0
  obtain ⟨s1, q1, _, w1⟩ := DataW.trod_int Tryz.underlying37 g1
  obtain ⟨ys, m', _, _, _, hyl, hy⟩ := DataW.trod_array Tryz.underlying38 g2
  have y0 := hy 0 (by omega)
  have y1 := hy 1 (by omega)
  have y2 := hy 2 (by omega)
  have y3 := hy 3 (by omega)
  rw [cells_u64, List.getElem?_eq_getElem (by omega)] at y0 y1 y2 y3
  obtain ⟨s2, q2, _, w2⟩ := DataW.trod_int Tryz.underlying36 y0
  obtain ⟨s3, q3, _, w3⟩ := DataW.trod_int Tryz.underlying36 y1
  obtain ⟨s4, q4, _, w4⟩ := DataW.trod_int Tryz.underlying36 y2
  obtain ⟨s5, q5, _, w5⟩ := DataW.trod_int Tryz.underlying36 y3
  simp at q0 q1 q2 q3 q4 q5
  obtain ⟨k0, rfl, b0⟩ := u32_wf w0
  obtain ⟨k1, rfl, b1⟩ := u32_wf w1
  obtain ⟨k2, rfl, b2⟩ := u64_wf w2
  obtain ⟨k3, rfl, b3⟩ := u64_wf w3
  obtain ⟨k4, rfl, b4⟩ := u64_wf w4
  obtain ⟨k5, rfl, b5⟩ := u64_wf w5
  subst q0 q1 q2 q3 q4 q5
  exact ⟨_, _, _, _, _, _, rfl, by omega, by omega, by omega, by omega, by omega, by omega⟩

/-- An act that is read, its cells. -/
theorem act_read {H : Type} {enc : TypeId × Value → H} {w : World} {base : Nat} {spare : Nat → Bool} {held : Bool} {n : Nat} {cs : List Value} {x : DataW H × List MemPlace} (h : DataW.trod enc Tryz.prog w base spare held n 42 cs = some x) :
    ∃ y : AC, cs = [.string y.kind, .int .i64 y.n, .int .u64 y.a, .string y.s, .bool y.wr, .int .u32 y.c0, .int .u32 y.c1, .int .u64 y.c2, .int .u64 y.c3, .int .u64 y.c4, .int .u64 y.c5] ∧ y.kind.size ≤ maxLen ∧ y.s.size ≤ maxLen ∧ y.a < 18446744073709551616 ∧ y.callOk ∧ -9223372036854775808 ≤ y.n ∧ y.n ≤ 9223372036854775807 := by
  obtain ⟨f0, f1, f2, f3, f4, f5, hu, ⟨t0, t1, t2, t3, t4, t5⟩, o0, o1, o2, o3, o4, o5⟩ := act_fields
  obtain ⟨xs, m, _, _, hl, hlen, hf⟩ := DataW.trod_struct hu h
  rw [cells_act] at hl
  obtain ⟨a0, a1, a2, a3, a4, a5, a6, a7, a8, a9, a10, rfl⟩ := list11 hl
  have g0 := hf 0 f0 rfl
  have g1 := hf 1 f1 rfl
  have g2 := hf 2 f2 rfl
  have g3 := hf 3 f3 rfl
  have g4 := hf 4 f4 rfl
  have g5 := hf 5 f5 rfl
  have hlt : xs.length = 6 := hlen
  rw [t0, o0, cells_str, List.getElem?_eq_getElem (by omega)] at g0
  rw [t1, o1, cells_int, List.getElem?_eq_getElem (by omega)] at g1
  rw [t2, o2, cells_u64, List.getElem?_eq_getElem (by omega)] at g2
  rw [t3, o3, cells_str, List.getElem?_eq_getElem (by omega)] at g3
  rw [t4, o4, cells_bool, List.getElem?_eq_getElem (by omega)] at g4
  rw [t5, o5, cells_callA, List.getElem?_eq_getElem (by omega)] at g5
  obtain ⟨z0, z1, z2, z3, z4, z5, q5, hz⟩ := call_read g5
  obtain ⟨s0, q0, _, w0⟩ := DataW.trod_string Tryz.underlying9 g0
  obtain ⟨s1, q1, _, w1⟩ := DataW.trod_int Tryz.underlying3 g1
  obtain ⟨s2, q2, _, w2⟩ := DataW.trod_int Tryz.underlying36 g2
  obtain ⟨s3, q3, _, w3⟩ := DataW.trod_string Tryz.underlying9 g3
  obtain ⟨s4, q4, _⟩ := DataW.trod_bool Tryz.underlying4 g4
  simp at q0 q1 q2 q3 q4 q5
  obtain ⟨rfl, rfl, rfl, rfl, rfl, rfl⟩ := q5
  obtain ⟨k2, rfl, hk2⟩ := u64_wf w2
  subst q0 q1 q2 q3 q4
  exact ⟨⟨s0, s1, k2, s3, s4, z0, z1, z2, z3, z4, z5⟩, rfl, w0, w3, hk2, hz, i64_wf w1⟩

set_option maxRecDepth 100000 in
/-- A slice of acts that came in, opened. -/
theorem open_acts {H : Type} {enc : TypeId × Value → H} {W : World} {v : Value} {d : DataW H} {p : List MemPlace} {r : Reach} {b0 : Nat} (hv : Value.okWide Tryz.prog W r b0 27 v) (h : DataW.Trod enc Tryz.prog W 0 (fun _ => true) true 27 v d p) :
    ∃ (oa : Option Addr) (n cap : Nat) (L : Nat → AC), v = .slice oa n cap ∧ n ≤ maxLen ∧ IsActs oa n L W := by
  obtain ⟨oa, n, cap, rfl⟩ := okWide_slice Tryz.underlying27 hv
  obtain ⟨fuel, hf⟩ := h
  rcases Go.Deep.open_slice Tryz.underlying27 hf with ⟨hcs, _⟩ | ⟨a, len, cap', m, fu, D, Pl, hcs, _, hl, hm, hmm, _, hx⟩
  · simp only [Value.cells, List.cons.injEq, Value.slice.injEq, and_true] at hcs
    obtain ⟨rfl, rfl, rfl⟩ := hcs
    exact ⟨none, 0, 0, fun _ => ⟨⟨#[]⟩, 0, 0, ⟨#[]⟩, false, 0, 0, 0, 0, 0, 0⟩, rfl, Nat.zero_le _, ⟨fun h0 => absurd h0 (Nat.lt_irrefl 0)⟩⟩
  · simp only [Value.cells, List.cons.injEq, Value.slice.injEq, and_true] at hcs
    obtain ⟨rfl, rfl, rfl⟩ := hcs
    rw [if_pos rfl] at hmm
    subst hmm
    rw [cells_act] at hx
    have hy : ∀ i, i < n → ∃ y : AC, ∃ cs', W.cells? 0 (a.add (i * 11)) 11 = some cs' ∧ cs' = [.string y.kind, .int .i64 y.n, .int .u64 y.a, .string y.s, .bool y.wr, .int .u32 y.c0, .int .u32 y.c1, .int .u64 y.c2, .int .u64 y.c3, .int .u64 y.c4, .int .u64 y.c5] ∧ y.kind.size ≤ maxLen ∧ y.s.size ≤ maxLen ∧ y.a < 18446744073709551616 ∧ y.callOk ∧ -9223372036854775808 ≤ y.n ∧ y.n ≤ 9223372036854775807 := fun i hi => by
      obtain ⟨cs', h1, h2⟩ := hx i (by omega)
      obtain ⟨y, h3, h4⟩ := act_read h2
      exact ⟨y, cs', h1, h3, h4⟩
    haveI : Inhabited AC := ⟨⟨⟨#[]⟩, 0, 0, ⟨#[]⟩, false, 0, 0, 0, 0, 0, 0⟩⟩
    obtain ⟨L, hL⟩ := Go.Deep.choose_lt hy
    refine ⟨some a, n, m, L, rfl, Nat.le_trans hl hm, ⟨fun h0 => ?_⟩⟩
    obtain ⟨b, off, spot⟩ := a
    obtain ⟨cs0, k1, k2, _⟩ := hL 0 h0
    have hc0 := (World.cells?_some k1).2.2 0 (by omega)
    rw [k2] at hc0
    have hspot : spot = none := by simpa [Addr.add] using World.cell?_spot hc0
    subst hspot
    refine ⟨b, off, rfl, World.cells?_block (by rw [Nat.zero_mul] at k1; simpa [Addr.add] using k1) (by omega : 0 < 11), fun i hi => ?_⟩
    obtain ⟨cs', k1, rfl, k3, k4, k5, kc, k6, k7⟩ := hL i hi
    exact ⟨elem_cells k1 0 (by omega), elem_cells k1 1 (by omega), elem_cells k1 2 (by omega), elem_cells k1 3 (by omega), elem_cells k1 4 (by omega), elem_cells k1 5 (by omega), elem_cells k1 6 (by omega), elem_cells k1 7 (by omega), elem_cells k1 8 (by omega), elem_cells k1 9 (by omega), elem_cells k1 10 (by omega), k3, k4, k5, k6, k7, kc⟩
end Go.Proofs.YtlgghomjlhnijaaGreat.Mm

/- Policies, calls and values that came in, opened. -/
namespace Go.Proofs.YtlgghomjlhnijaaGreat
open Go.ChangeShapes Go.WideShapes Go.ChangeAt Go.RowKit Go.WideMaps Go.WideElems

theorem cond_fields : ∃ f0 f1 f2 f3 f4 f5 : Field, Tryz.prog.underlying 71 = some (.struct #[f0, f1, f2, f3, f4, f5]) ∧ (f0.type = 3 ∧ f1.type = 3 ∧ f2.type = 36 ∧ f3.type = 36 ∧ f4.type = 9 ∧ f5.type = 69) ∧ (f0.offset = 0 ∧ f1.offset = 1 ∧ f2.offset = 2 ∧ f3.offset = 3 ∧ f4.offset = 4 ∧ f5.offset = 5) :=
  ⟨_, _, _, _, _, _, Tryz.underlying71, ⟨by kernel_rfl, by kernel_rfl, by kernel_rfl, by kernel_rfl, by kernel_rfl, by kernel_rfl⟩, by kernel_rfl, by kernel_rfl, by kernel_rfl, by kernel_rfl, by kernel_rfl, by kernel_rfl⟩
theorem net_fields : ∃ f0 f1 f2 f3 : Field, Tryz.prog.underlying 69 = some (.struct #[f0, f1, f2, f3]) ∧ (f0.type = 37 ∧ f1.type = 3 ∧ f2.type = 3 ∧ f3.type = 3) ∧ (f0.offset = 0 ∧ f1.offset = 1 ∧ f2.offset = 2 ∧ f3.offset = 3) :=
  ⟨_, _, _, _, Tryz.underlying69, ⟨by kernel_rfl, by kernel_rfl, by kernel_rfl, by kernel_rfl⟩, by kernel_rfl, by kernel_rfl, by kernel_rfl, by kernel_rfl⟩
theorem rule_fields : ∃ f0 f1 f2 : Field, Tryz.prog.underlying 67 = some (.struct #[f0, f1, f2]) ∧ (f0.type = 3 ∧ f1.type = 65 ∧ f2.type = 24) ∧ (f0.offset = 0 ∧ f1.offset = 1 ∧ f2.offset = 2) :=
  ⟨_, _, _, Tryz.underlying67, ⟨by kernel_rfl, by kernel_rfl, by kernel_rfl⟩, by kernel_rfl, by kernel_rfl, by kernel_rfl⟩
theorem action_fields : ∃ f0 f1 : Field, Tryz.prog.underlying 24 = some (.struct #[f0, f1]) ∧ (f0.type = 3 ∧ f1.type = 3) ∧ (f0.offset = 0 ∧ f1.offset = 1) :=
  ⟨_, _, Tryz.underlying24, ⟨by kernel_rfl, by kernel_rfl⟩, by kernel_rfl, by kernel_rfl⟩
theorem pol_fields : ∃ f0 f1 : Field, Tryz.prog.underlying 26 = some (.struct #[f0, f1]) ∧ (f0.type = 22 ∧ f1.type = 24) ∧ (f0.offset = 0 ∧ f1.offset = 1) :=
  ⟨_, _, Tryz.underlying26, ⟨by kernel_rfl, by kernel_rfl⟩, by kernel_rfl, by kernel_rfl⟩
theorem call_fields : ∃ f0 f1 f2 : Field, Tryz.prog.underlying 40 = some (.struct #[f0, f1, f2]) ∧ (f0.type = 37 ∧ f1.type = 37 ∧ f2.type = 38) ∧ (f0.offset = 0 ∧ f1.offset = 1 ∧ f2.offset = 2) :=
  ⟨_, _, _, Tryz.underlying40, ⟨by kernel_rfl, by kernel_rfl, by kernel_rfl⟩, by kernel_rfl, by kernel_rfl, by kernel_rfl⟩
theorem value_fields : ∃ f0 f1 f2 : Field, Tryz.prog.underlying 50 = some (.struct #[f0, f1, f2]) ∧ (f0.type = 9 ∧ f1.type = 37 ∧ f2.type = 3) ∧ (f0.offset = 0 ∧ f1.offset = 1 ∧ f2.offset = 2) :=
  ⟨_, _, _, Tryz.underlying50, ⟨by kernel_rfl, by kernel_rfl, by kernel_rfl⟩, by kernel_rfl, by kernel_rfl, by kernel_rfl⟩
theorem cells_cond : Tryz.prog.cellsOf 71 = 9 := by kernel_rfl
theorem cells_net : Tryz.prog.cellsOf 69 = 4 := by kernel_rfl
theorem cells_rule : Tryz.prog.cellsOf 67 = 4 := by kernel_rfl
theorem cells_action : Tryz.prog.cellsOf 24 = 2 := by kernel_rfl
theorem cells_pol : Tryz.prog.cellsOf 26 = 3 := by kernel_rfl
theorem cells_conds : Tryz.prog.cellsOf 65 = 1 := by kernel_rfl
theorem cells_rules : Tryz.prog.cellsOf 22 = 1 := by kernel_rfl
theorem cells_call : Tryz.prog.cellsOf 40 = 6 := by kernel_rfl
theorem cells_value : Tryz.prog.cellsOf 50 = 3 := by kernel_rfl
theorem cells_vals : Tryz.prog.cellsOf 52 = 12 := by kernel_rfl
theorem cells_i : Tryz.prog.cellsOf 3 = 1 := by kernel_rfl
theorem cells_s : Tryz.prog.cellsOf 9 = 1 := by kernel_rfl
theorem cells_32 : Tryz.prog.cellsOf 37 = 1 := by kernel_rfl
theorem cells_64 : Tryz.prog.cellsOf 36 = 1 := by kernel_rfl
theorem cells_arr4 : Tryz.prog.cellsOf 38 = 4 := by kernel_rfl

theorem list2 {α : Type} {l : List α} (h : l.length = 2) : ∃ a0 a1, l = [a0, a1] := by
  match l, h with
  | [a0, a1], _ => exact ⟨a0, a1, rfl⟩
theorem list3 {α : Type} {l : List α} (h : l.length = 3) : ∃ a0 a1 a2, l = [a0, a1, a2] := by
  match l, h with
  | [a0, a1, a2], _ => exact ⟨a0, a1, a2, rfl⟩
theorem list4 {α : Type} {l : List α} (h : l.length = 4) : ∃ a0 a1 a2 a3, l = [a0, a1, a2, a3] := by
  match l, h with
  | [a0, a1, a2, a3], _ => exact ⟨a0, a1, a2, a3, rfl⟩
theorem list9 {α : Type} {l : List α} (h : l.length = 9) : ∃ a0 a1 a2 a3 a4 a5 a6 a7 a8, l = [a0, a1, a2, a3, a4, a5, a6, a7, a8] := by
  match l, h with
  | [a0, a1, a2, a3, a4, a5, a6, a7, a8], _ => exact ⟨a0, a1, a2, a3, a4, a5, a6, a7, a8, rfl⟩
theorem array3 {α : Type} {l : Array α} (h : l.size = 3) : ∃ a0 a1 a2, l = #[a0, a1, a2] := by
  obtain ⟨l⟩ := l
  match l, h with
  | [a0, a1, a2], _ => exact ⟨a0, a1, a2, rfl⟩
theorem array6 {α : Type} {l : Array α} (h : l.size = 6) : ∃ a0 a1 a2 a3 a4 a5, l = #[a0, a1, a2, a3, a4, a5] := by
  obtain ⟨l⟩ := l
  match l, h with
  | [a0, a1, a2, a3, a4, a5], _ => exact ⟨a0, a1, a2, a3, a4, a5, rfl⟩
theorem array12 {α : Type} {l : Array α} (h : l.size = 12) : ∃ a0 a1 a2 a3 a4 a5 a6 a7 a8 a9 a10 a11, l = #[a0, a1, a2, a3, a4, a5, a6, a7, a8, a9, a10, a11] := by
  obtain ⟨l⟩ := l
  match l, h with
  | [a0, a1, a2, a3, a4, a5, a6, a7, a8, a9, a10, a11], _ => exact ⟨a0, a1, a2, a3, a4, a5, a6, a7, a8, a9, a10, a11, rfl⟩
/-- Elements, one by one, as a list. -/
theorem list_of {α : Type} {n : Nat} {p : Nat → α → Prop} (h : ∀ i, i < n → ∃ x, p i x) : ∃ l : List α, l.length = n ∧ ∀ i x, l[i]? = some x → p i x := by
  induction n with
  | zero => exact ⟨[], rfl, fun i x hx => by simp at hx⟩
  | succ n ih =>
    obtain ⟨l, hl, hp⟩ := ih fun i hi => h i (by omega)
    obtain ⟨y, hy⟩ := h n (by omega)
    refine ⟨l ++ [y], by simp [hl], fun i x hx => ?_⟩
    by_cases hi : i < n
    · rw [List.getElem?_append_left (by omega)] at hx
      exact hp i x hx
    · rw [List.getElem?_append_right (by omega)] at hx
      have hlt := (List.getElem?_eq_some_iff.1 hx).1
      simp only [List.length_singleton] at hlt
      obtain rfl : i = n := by omega
      rw [hl, Nat.sub_self] at hx
      obtain rfl := Option.some.inj hx
      exact hy

variable {H : Type} {enc : TypeId × Value → H} {w : World} {base : Nat} {spare : Nat → Bool} {held : Bool} {n : Nat} {cs : List Value} {x : DataW H × List MemPlace}
theorem i64_ok {n : Int} (h : (Lit.int .i64 n).wf = true) : I64 n := i64_wf h
theorem action_read (h : DataW.trod enc Tryz.prog w base spare held n 24 cs = some x) : ∃ a : ACT, cs = [.int .i64 a.kind, .int .i64 a.errno] ∧ AcOk a := by
  obtain ⟨f0, f1, hu, ⟨t0, t1⟩, o0, o1⟩ := action_fields
  obtain ⟨xs, m, _, _, hl, hlen, hf⟩ := DataW.trod_struct hu h
  rw [cells_action] at hl
  obtain ⟨a0, a1, rfl⟩ := list2 hl
  have g0 := hf 0 f0 rfl
  have g1 := hf 1 f1 rfl
  have hlt : xs.length = 2 := hlen
  rw [t0, o0, cells_i, List.getElem?_eq_getElem (by omega)] at g0
  rw [t1, o1, cells_i, List.getElem?_eq_getElem (by omega)] at g1
  obtain ⟨s0, q0, _, w0⟩ := DataW.trod_int Tryz.underlying3 g0
  obtain ⟨s1, q1, _, w1⟩ := DataW.trod_int Tryz.underlying3 g1
  simp at q0 q1
  subst q0 q1
  exact ⟨⟨s0, s1⟩, rfl, ⟨i64_ok w0, i64_ok w1⟩⟩
theorem net_read (h : DataW.trod enc Tryz.prog w base spare held n 69 cs = some x) : ∃ a : NT, cs = [.int .u32 a.ip, .int .i64 a.bits, .int .i64 a.lo, .int .i64 a.hi] ∧ NtOk a := by
  obtain ⟨f0, f1, f2, f3, hu, ⟨t0, t1, t2, t3⟩, o0, o1, o2, o3⟩ := net_fields
  obtain ⟨xs, m, _, _, hl, hlen, hf⟩ := DataW.trod_struct hu h
  rw [cells_net] at hl
  obtain ⟨a0, a1, a2, a3, rfl⟩ := list4 hl
  have g0 := hf 0 f0 rfl
  have g1 := hf 1 f1 rfl
  have g2 := hf 2 f2 rfl
  have g3 := hf 3 f3 rfl
  have hlt : xs.length = 4 := hlen
  rw [t0, o0, cells_32, List.getElem?_eq_getElem (by omega)] at g0
  rw [t1, o1, cells_i, List.getElem?_eq_getElem (by omega)] at g1
  rw [t2, o2, cells_i, List.getElem?_eq_getElem (by omega)] at g2
  rw [t3, o3, cells_i, List.getElem?_eq_getElem (by omega)] at g3
  obtain ⟨s0, q0, _, w0⟩ := DataW.trod_int Tryz.underlying37 g0
  obtain ⟨s1, q1, _, w1⟩ := DataW.trod_int Tryz.underlying3 g1
  obtain ⟨s2, q2, _, w2⟩ := DataW.trod_int Tryz.underlying3 g2
  obtain ⟨s3, q3, _, w3⟩ := DataW.trod_int Tryz.underlying3 g3
  simp at q0 q1 q2 q3
  obtain ⟨k0, rfl, h0⟩ := u32_wf w0
  subst q0 q1 q2 q3
  exact ⟨⟨k0, s1, s2, s3⟩, rfl, ⟨h0, i64_ok w1, i64_ok w2, i64_ok w3⟩⟩
theorem cond_read (h : DataW.trod enc Tryz.prog w base spare held n 71 cs = some x) :
    ∃ c : CD, cs = [.int .i64 c.arg, .int .i64 c.op, .int .u64 c.v, .int .u64 c.m, .string c.glob, .int .u32 c.net.ip, .int .i64 c.net.bits, .int .i64 c.net.lo, .int .i64 c.net.hi] ∧ CdOk c := by
  obtain ⟨f0, f1, f2, f3, f4, f5, hu, ⟨t0, t1, t2, t3, t4, t5⟩, o0, o1, o2, o3, o4, o5⟩ := cond_fields
  obtain ⟨xs, m, _, _, hl, hlen, hf⟩ := DataW.trod_struct hu h
  rw [cells_cond] at hl
  obtain ⟨a0, a1, a2, a3, a4, a5, a6, a7, a8, rfl⟩ := list9 hl
  have g0 := hf 0 f0 rfl
  have g1 := hf 1 f1 rfl
  have g2 := hf 2 f2 rfl
  have g3 := hf 3 f3 rfl
  have g4 := hf 4 f4 rfl
  have g5 := hf 5 f5 rfl
  have hlt : xs.length = 6 := hlen
  rw [t0, o0, cells_i, List.getElem?_eq_getElem (by omega)] at g0
  rw [t1, o1, cells_i, List.getElem?_eq_getElem (by omega)] at g1
  rw [t2, o2, cells_64, List.getElem?_eq_getElem (by omega)] at g2
  rw [t3, o3, cells_64, List.getElem?_eq_getElem (by omega)] at g3
  rw [t4, o4, cells_s, List.getElem?_eq_getElem (by omega)] at g4
  rw [t5, o5, cells_net, List.getElem?_eq_getElem (by omega)] at g5
  obtain ⟨nt, q5, hnt⟩ := net_read g5
  obtain ⟨s0, q0, _, w0⟩ := DataW.trod_int Tryz.underlying3 g0
  obtain ⟨s1, q1, _, w1⟩ := DataW.trod_int Tryz.underlying3 g1
  obtain ⟨s2, q2, _, w2⟩ := DataW.trod_int Tryz.underlying36 g2
  obtain ⟨s3, q3, _, w3⟩ := DataW.trod_int Tryz.underlying36 g3
  obtain ⟨s4, q4, _, _⟩ := DataW.trod_string Tryz.underlying9 g4
  simp at q0 q1 q2 q3 q4 q5
  obtain ⟨k2, rfl, h2⟩ := u64_wf w2
  obtain ⟨k3, rfl, h3⟩ := u64_wf w3
  obtain ⟨q5, q6, q7, q8⟩ := q5
  subst q0 q1 q2 q3 q4 q5 q6 q7 q8
  exact ⟨⟨s0, s1, k2, k3, s4, nt⟩, rfl, ⟨i64_ok w0, i64_ok w1, h2, h3, hnt⟩⟩

set_option maxRecDepth 100000 in
theorem conds_read {W : World} (h : DataW.trod enc Tryz.prog W 0 (fun _ => true) true n 65 cs = some x) :
    ∃ (oa : Option Addr) (l : List CD) (cap : Nat), cs = [.slice oa l.length cap] ∧ l.length ≤ cap ∧ cap ≤ maxLen ∧ IsConds oa l W ∧ ∀ c ∈ l, CdOk c := by
  rcases Go.Deep.open_slice Tryz.underlying65 h with ⟨rfl, _⟩ | ⟨a, len, cap, m, fu, D, Pl, rfl, _, hl, hm, hmm, _, hx⟩
  · exact ⟨none, [], 0, rfl, Nat.le_refl _, Nat.zero_le _, IsConds.nil _ _, fun c hc => by simp at hc⟩
  · rw [if_pos rfl] at hmm
    subst hmm
    rw [cells_cond] at hx
    obtain ⟨l, hll, hp⟩ := list_of (n := len) (p := fun i (c : CD) => ∃ cs', W.cells? 0 (a.add (i * 9)) 9 = some cs' ∧ cs' = [.int .i64 c.arg, .int .i64 c.op, .int .u64 c.v, .int .u64 c.m, .string c.glob, .int .u32 c.net.ip, .int .i64 c.net.bits, .int .i64 c.net.lo, .int .i64 c.net.hi] ∧ CdOk c) fun i hi => by
      obtain ⟨cs', h1, h2⟩ := hx i (by omega)
      obtain ⟨c, h3, h4⟩ := cond_read h2
      exact ⟨c, cs', h1, h3, h4⟩
    subst hll
    refine ⟨some a, l, m, rfl, hl, hm, ⟨fun h0 => ?_⟩, fun c hc => ?_⟩
    · obtain ⟨b, off, spot⟩ := a
      obtain ⟨cs0, k1, k2, _⟩ := hp 0 l[0] (List.getElem?_eq_getElem h0)
      have hc0 := (World.cells?_some k1).2.2 0 (by omega)
      rw [k2] at hc0
      have hspot : spot = none := by simpa [Addr.add] using World.cell?_spot hc0
      subst hspot
      refine ⟨b, off, rfl, World.cells?_block (by rw [Nat.zero_mul] at k1; simpa [Addr.add] using k1) (by omega : 0 < 9), fun i c hi => ?_⟩
      obtain ⟨cs', k1, rfl, k3⟩ := hp i c hi
      exact ⟨elem_cells k1 0 (by omega), elem_cells k1 1 (by omega), elem_cells k1 2 (by omega), elem_cells k1 3 (by omega), elem_cells k1 4 (by omega), elem_cells k1 5 (by omega), elem_cells k1 6 (by omega), elem_cells k1 7 (by omega), elem_cells k1 8 (by omega), k3⟩
    · obtain ⟨i, hi, rfl⟩ := List.mem_iff_getElem.1 hc
      obtain ⟨_, _, _, k3⟩ := hp i _ (List.getElem?_eq_getElem hi)
      exact k3
theorem rule_read {W : World} (h : DataW.trod enc Tryz.prog W 0 (fun _ => true) true n 67 cs = some x) :
    ∃ (r : RL) (oa : Option Addr) (cap : Nat), cs = [.int .i64 r.nr, .slice oa r.conds.length cap, .int .i64 r.act.kind, .int .i64 r.act.errno] ∧ r.conds.length ≤ cap ∧ cap ≤ maxLen ∧ IsConds oa r.conds W ∧ RlOk r := by
  obtain ⟨f0, f1, f2, hu, ⟨t0, t1, t2⟩, o0, o1, o2⟩ := rule_fields
  obtain ⟨xs, m, _, _, hl, hlen, hf⟩ := DataW.trod_struct hu h
  rw [cells_rule] at hl
  obtain ⟨a0, a1, a2, a3, rfl⟩ := list4 hl
  have g0 := hf 0 f0 rfl
  have g1 := hf 1 f1 rfl
  have g2 := hf 2 f2 rfl
  have hlt : xs.length = 3 := hlen
  rw [t0, o0, cells_i, List.getElem?_eq_getElem (by omega)] at g0
  rw [t1, o1, cells_conds, List.getElem?_eq_getElem (by omega)] at g1
  rw [t2, o2, cells_action, List.getElem?_eq_getElem (by omega)] at g2
  obtain ⟨s0, q0, _, w0⟩ := DataW.trod_int Tryz.underlying3 g0
  obtain ⟨oa, l, cap, q1, hlc, hcm, hic, hok⟩ := conds_read g1
  obtain ⟨ac, q2, hac⟩ := action_read g2
  simp at q0 q1 q2
  obtain ⟨q2, q3⟩ := q2
  subst q0 q1 q2 q3
  exact ⟨⟨s0, l, ac⟩, oa, cap, rfl, hlc, hcm, hic, ⟨i64_ok w0, hok, hac⟩⟩

set_option maxRecDepth 100000 in
theorem rules_read {W : World} (h : DataW.trod enc Tryz.prog W 0 (fun _ => true) true n 22 cs = some x) :
    ∃ (oa : Option Addr) (l : List RL) (cap : Nat), cs = [.slice oa l.length cap] ∧ l.length ≤ cap ∧ cap ≤ maxLen ∧ IsRules oa l W ∧ ∀ r ∈ l, RlOk r := by
  rcases Go.Deep.open_slice Tryz.underlying22 h with ⟨rfl, _⟩ | ⟨a, len, cap, m, fu, D, Pl, rfl, _, hl, hm, hmm, _, hx⟩
  · exact ⟨none, [], 0, rfl, Nat.le_refl _, Nat.zero_le _, IsRules.nil _ _, fun c hc => by simp at hc⟩
  · rw [if_pos rfl] at hmm
    subst hmm
    rw [cells_rule] at hx
    obtain ⟨l, hll, hp⟩ := list_of (n := len) (p := fun i (r : RL) => ∃ cs', W.cells? 0 (a.add (i * 4)) 4 = some cs' ∧ ∃ (oa : Option Addr) (cap : Nat), cs' = [.int .i64 r.nr, .slice oa r.conds.length cap, .int .i64 r.act.kind, .int .i64 r.act.errno] ∧ r.conds.length ≤ cap ∧ cap ≤ maxLen ∧ IsConds oa r.conds W ∧ RlOk r) fun i hi => by
      obtain ⟨cs', h1, h2⟩ := hx i (by omega)
      obtain ⟨r, oa, cap, h3, h4⟩ := rule_read h2
      exact ⟨r, cs', h1, oa, cap, h3, h4⟩
    subst hll
    refine ⟨some a, l, m, rfl, hl, hm, ⟨fun h0 => ?_⟩, fun c hc => ?_⟩
    · obtain ⟨b, off, spot⟩ := a
      obtain ⟨cs0, k1, _, _, k2, _⟩ := hp 0 l[0] (List.getElem?_eq_getElem h0)
      have hc0 := (World.cells?_some k1).2.2 0 (by omega)
      rw [k2] at hc0
      have hspot : spot = none := by simpa [Addr.add] using World.cell?_spot hc0
      subst hspot
      refine ⟨b, off, rfl, World.cells?_block (by rw [Nat.zero_mul] at k1; simpa [Addr.add] using k1) (by omega : 0 < 4), fun i c hi => ?_⟩
      obtain ⟨cs', k1, oa, cc, rfl, k3, k4, k5, k6⟩ := hp i c hi
      exact ⟨oa, cc, elem_cells k1 0 (by omega), elem_cells k1 1 (by omega), elem_cells k1 2 (by omega), elem_cells k1 3 (by omega), k5, k3, k4, k6⟩
    · obtain ⟨i, hi, rfl⟩ := List.mem_iff_getElem.1 hc
      obtain ⟨_, _, _, _, _, _, _, _, k6⟩ := hp i _ (List.getElem?_eq_getElem hi)
      exact k6

set_option maxRecDepth 100000 in
/-- A policy that came in, opened. -/
theorem open_pol {W : World} {v : Value} {d : DataW H} {p : List MemPlace} {r : Reach} {b0 : Nat} (hv : Value.okWide Tryz.prog W r b0 26 v) (h : DataW.Trod enc Tryz.prog W 0 (fun _ => true) true 26 v d p) :
    ∃ (q : POL) (oa : Option Addr) (cap : Nat), v = polV q oa cap ∧ IsPol oa cap q W := by
  obtain ⟨f0, f1, hu, ⟨t0, t1⟩, o0, o1⟩ := pol_fields
  obtain ⟨cs, rfl, hsz⟩ := okWide_struct hu hv
  obtain ⟨a0, a1, a2, rfl⟩ := array3 (hsz.trans cells_pol)
  obtain ⟨fuel, hf⟩ := h
  obtain ⟨xs, m, _, _, hl, hlen, hf⟩ := DataW.trod_struct hu hf
  have g0 := hf 0 f0 rfl
  have g1 := hf 1 f1 rfl
  have hlt : xs.length = 2 := hlen
  rw [t0, o0, cells_rules, List.getElem?_eq_getElem (by omega)] at g0
  rw [t1, o1, cells_action, List.getElem?_eq_getElem (by omega)] at g1
  obtain ⟨oa, l, cap, q0, hlc, hcm, hir, hok⟩ := rules_read g0
  obtain ⟨ac, q1, hac⟩ := action_read g1
  simp [Value.cells] at q0 q1
  obtain ⟨q1, q2⟩ := q1
  subst q0 q1 q2
  exact ⟨⟨l, ac⟩, oa, cap, rfl, ⟨hir, hlc, hcm, ⟨hok, hac⟩⟩⟩

set_option maxRecDepth 100000 in
/-- A call that came in, opened. -/
theorem open_call {W : World} {v : Value} {d : DataW H} {p : List MemPlace} {r : Reach} {b0 : Nat} (hv : Value.okWide Tryz.prog W r b0 40 v) (h : DataW.Trod enc Tryz.prog W base spare held 40 v d p) :
    ∃ c : KL, v = klV c ∧ KlOk c := by
  obtain ⟨f0, f1, f2, hu, ⟨t0, t1, t2⟩, o0, o1, o2⟩ := call_fields
  obtain ⟨cs, rfl, hsz⟩ := okWide_struct hu hv
  obtain ⟨a0, a1, a2, a3, a4, a5, rfl⟩ := array6 (hsz.trans cells_call)
  obtain ⟨fuel, hf⟩ := h
  obtain ⟨xs, m, _, _, hl, hlen, hf⟩ := DataW.trod_struct hu hf
  have g0 := hf 0 f0 rfl
  have g1 := hf 1 f1 rfl
  have g2 := hf 2 f2 rfl
  have hlt : xs.length = 3 := hlen
  rw [t0, o0, cells_32, List.getElem?_eq_getElem (by omega)] at g0
  rw [t1, o1, cells_32, List.getElem?_eq_getElem (by omega)] at g1
  rw [t2, o2, cells_arr4, List.getElem?_eq_getElem (by omega)] at g2
  obtain ⟨s0, q0, _, w0⟩ := DataW.trod_int Tryz.underlying37 g0
  obtain ⟨s1, q1, _, w1⟩ := DataW.trod_int Tryz.underlying37 g1
  obtain ⟨ys, m', _, _, _, hyl, hy⟩ := DataW.trod_array Tryz.underlying38 g2
  have y0 := hy 0 (by omega)
  have y1 := hy 1 (by omega)
  have y2 := hy 2 (by omega)
  have y3 := hy 3 (by omega)
  rw [cells_64, List.getElem?_eq_getElem (by omega)] at y0 y1 y2 y3
  obtain ⟨s2, q2, _, w2⟩ := DataW.trod_int Tryz.underlying36 y0
  obtain ⟨s3, q3, _, w3⟩ := DataW.trod_int Tryz.underlying36 y1
  obtain ⟨s4, q4, _, w4⟩ := DataW.trod_int Tryz.underlying36 y2
  obtain ⟨s5, q5, _, w5⟩ := DataW.trod_int Tryz.underlying36 y3
  simp [Value.cells] at q0 q1 q2 q3 q4 q5
  obtain ⟨k0, rfl, h0⟩ := u32_wf w0
  obtain ⟨k1, rfl, h1⟩ := u32_wf w1
  obtain ⟨k2, rfl, h2⟩ := u64_wf w2
  obtain ⟨k3, rfl, h3⟩ := u64_wf w3
  obtain ⟨k4, rfl, h4⟩ := u64_wf w4
  obtain ⟨k5, rfl, h5⟩ := u64_wf w5
  subst q0 q1 q2 q3 q4 q5
  exact ⟨⟨k0, k1, k2, k3, k4, k5⟩, rfl, ⟨h0, h1, h2, h3, h4, h5⟩⟩

theorem value_read (h : DataW.trod enc Tryz.prog w base spare held n 50 cs = some x) : ∃ y : VL, cs = [.string y.path, .int .u32 y.ip, .int .i64 y.port] ∧ y.path.size ≤ maxLen ∧ y.ip < 4294967296 ∧ I64 y.port := by
  obtain ⟨f0, f1, f2, hu, ⟨t0, t1, t2⟩, o0, o1, o2⟩ := value_fields
  obtain ⟨xs, m, _, _, hl, hlen, hf⟩ := DataW.trod_struct hu h
  rw [cells_value] at hl
  obtain ⟨a0, a1, a2, rfl⟩ := list3 hl
  have g0 := hf 0 f0 rfl
  have g1 := hf 1 f1 rfl
  have g2 := hf 2 f2 rfl
  have hlt : xs.length = 3 := hlen
  rw [t0, o0, cells_s, List.getElem?_eq_getElem (by omega)] at g0
  rw [t1, o1, cells_32, List.getElem?_eq_getElem (by omega)] at g1
  rw [t2, o2, cells_i, List.getElem?_eq_getElem (by omega)] at g2
  obtain ⟨s0, q0, _, w0⟩ := DataW.trod_string Tryz.underlying9 g0
  obtain ⟨s1, q1, _, w1⟩ := DataW.trod_int Tryz.underlying37 g1
  obtain ⟨s2, q2, _, w2⟩ := DataW.trod_int Tryz.underlying3 g2
  simp at q0 q1 q2
  obtain ⟨k1, rfl, h1⟩ := u32_wf w1
  subst q0 q1 q2
  exact ⟨⟨s0, k1, s2⟩, rfl, w0, h1, i64_ok w2⟩
theorem okWide_arr {P : Program} {w : World} {r : Reach} {base : Nat} {t : TypeId} {v : Value} {n : Nat} {e : TypeId} (ht : P.underlying t = some (.array n e)) (h : Value.okWide P w r base t v) : ∃ cs, v = .agg cs ∧ cs.size = P.cellsOf t := by
  simp only [Value.okWide, ht] at h
  obtain ⟨cs, h1, h2, _⟩ := h
  exact ⟨cs, h1, h2⟩
/-- What is known of values that come in. -/
def VsIn (v : VS) : Prop := ∀ i, i ≤ 3 → (v.at i).path.size ≤ maxLen ∧ (v.at i).ip < 4294967296 ∧ I64 (v.at i).port
set_option maxRecDepth 100000 in
/-- Values that came in, opened. -/
theorem open_vals {W : World} {v : Value} {d : DataW H} {p : List MemPlace} {r : Reach} {b0 : Nat} (hv : Value.okWide Tryz.prog W r b0 52 v) (h : DataW.Trod enc Tryz.prog W base spare held 52 v d p) :
    ∃ c : VS, v = vsV c ∧ VsIn c := by
  obtain ⟨cs, rfl, hsz⟩ := okWide_arr Tryz.underlying52 hv
  obtain ⟨a0, a1, a2, a3, a4, a5, a6, a7, a8, a9, a10, a11, rfl⟩ := array12 (hsz.trans cells_vals)
  obtain ⟨fuel, hf⟩ := h
  obtain ⟨ys, m', _, _, _, hyl, hy⟩ := DataW.trod_array Tryz.underlying52 hf
  have y0 := hy 0 (by omega)
  have y1 := hy 1 (by omega)
  have y2 := hy 2 (by omega)
  have y3 := hy 3 (by omega)
  rw [cells_value, List.getElem?_eq_getElem (by omega)] at y0 y1 y2 y3
  obtain ⟨v0, q0, h0⟩ := value_read y0
  obtain ⟨v1, q1, h1⟩ := value_read y1
  obtain ⟨v2, q2, h2⟩ := value_read y2
  obtain ⟨v3, q3, h3⟩ := value_read y3
  simp [Value.cells] at q0 q1 q2 q3
  obtain ⟨q0, q4, q5⟩ := q0
  obtain ⟨q1, q6, q7⟩ := q1
  obtain ⟨q2, q8, q9⟩ := q2
  obtain ⟨q3, q10, q11⟩ := q3
  subst q0 q1 q2 q3 q4 q5 q6 q7 q8 q9 q10 q11
  refine ⟨⟨v0, v1, v2, v3⟩, rfl, fun i hi => ?_⟩
  rcases (by omega : i = 0 ∨ i = 1 ∨ i = 2 ∨ i = 3) with rfl | rfl | rfl | rfl
  · exact h0
  · exact h1
  · exact h2
  · exact h3
end Go.Proofs.YtlgghomjlhnijaaGreat

namespace Go.Proofs.YtlgghomjlhnijaaGreat
open Go.ChangeShapes Go.WideShapes Go.ChangeAt Go.RowKit Go.WideMaps Go.WideElems Mm

/-- Five arguments, opened one behind the other. -/
theorem trodAll_fiveTopLate {H : Type} {enc : TypeId × Value → H} {P : Program} {w : World} {base : Nat} {spare : Nat → Bool} {held : Bool} {t0 t1 t2 t3 t4 : TypeId} {args : Array Value} {ds : List (DataW H)} {ps : List MemPlace} (h : DataW.TrodAll enc P w base spare held [t0, t1, t2, t3, t4] args.toList ds ps) :
    ∃ v0 v1 v2 v3 v4 d0 d1 d2 d3 d4 p0 p1 p2 p3 p4, args = #[v0, v1, v2, v3, v4] ∧ ds = [d0, d1, d2, d3, d4] ∧ ps = p0 ++ (p1 ++ (p2 ++ (p3 ++ p4))) ∧ DataW.Trod enc P w base spare held t0 v0 d0 p0 ∧ DataW.Trod enc P w base spare held t1 v1 d1 p1 ∧ DataW.Trod enc P w base spare held t2 v2 d2 p2 ∧ DataW.Trod enc P w base spare held t3 v3 d3 p3 ∧ DataW.Trod enc P w base spare held t4 v4 d4 p4 := by
  obtain ⟨v0, vs0, d0, ds0, p0, q0, hargs, rfl, rfl, h0, r0⟩ := trodAll_cons h
  obtain ⟨v1, vs1, d1, ds1, p1, q1, rfl, rfl, rfl, h1, r1⟩ := trodAll_cons r0
  obtain ⟨v2, vs2, d2, ds2, p2, q2, rfl, rfl, rfl, h2, r2⟩ := trodAll_cons r1
  obtain ⟨v3, vs3, d3, ds3, p3, q3, rfl, rfl, rfl, h3, r3⟩ := trodAll_cons r2
  obtain ⟨v4, vs4, d4, ds4, p4, q4, rfl, rfl, rfl, h4, r4⟩ := trodAll_cons r3
  obtain ⟨rfl, rfl, rfl⟩ := trodAll_nil r4
  exact ⟨v0, v1, v2, v3, v4, d0, d1, d2, d3, d4, p0, p1, p2, p3, p4, by cases args; simp_all, rfl, by simp, h0, h1, h2, h3, h4⟩

set_option maxRecDepth 100000 in
theorem topLate_lifted (os : Os) (started : os.Started) (H : Type) (enc : TypeId × Value → H) :
    ReturnsInHanded {} Tryz.checked os 4 .any (Rows.topLateSpec.pre6 enc Tryz.prog Tryz.f4 Rows.topLateRow.domain false) (Rows.topLateSpec.post enc Tryz.prog Tryz.f4 false true false false) := by
  refine returnsInHanded_of_change (C := Tryz.checked) own started (by kernel_rfl) Tryz.func4
    (ChangeSpec.witness6 (enc := enc) (C := Tryz.checked) false ⟨#[], #[.agg #[.slice none 0 0, .int .i64 0, .int .i64 0], .slice none 0 0, .int .i64 0, .agg #[.int .u32 0, .int .u32 0, .int .u64 0, .int .u64 0, .int .u64 0, .int .u64 0], .slice none 0 0], []⟩ 8 (by kernel_rfl) (by kernel_rfl) (by kernel_rfl) (by kernel_rfl)) ?_
  intro W base args ds gs before hval0 hW hcnd _
  have hval : ∀ (j : Nat) t v, Tryz.f4.params[j]? = some t → args[j]? = some v → Value.okWide Tryz.prog W .any base t v := hval0
  have hW' := hW
  obtain ⟨p, q, hA0, hV, rfl, hfz, hnd⟩ := hW
  have hA : DataW.TrodAll enc Tryz.prog W 0 (fun _ => true) true Tryz.f4.params.toList args.toList ds p := hA0
  rw [Tryz.params4] at hA hval
  obtain ⟨v0, v1, v2, v3, v4, d0, d1, d2, d3, d4, p0, p1, p2, p3, p4, rfl, rfl, rfl, h0, h1, h2, h3, h4⟩ := trodAll_fiveTopLate hA
  obtain ⟨rfl, rfl⟩ := trodVars_none hV
  obtain ⟨pl, oa, cap, rfl, hpl⟩ := open_pol (hval 0 26 v0 rfl rfl) h0
  obtain ⟨ob, nb, capb, B, rfl, hnb, hB⟩ := open_acts (hval 1 27 v1 rfl rfl) h1
  obtain ⟨n2, rfl, rfl, rfl, hw2⟩ := open_int Tryz.underlying3 (hval 2 3 v2 rfl rfl) h2
  obtain ⟨c, rfl, hc⟩ := open_call (hval 3 40 v3 rfl rfl) h3
  obtain ⟨ot, nt, capt, T, rfl, hnt, hT⟩ := open_acts (hval 4 27 v4 rfl rfl) h4
  clear hA0 hval0
  simp only [List.append_nil] at hW'
  refine (topLate_any pl oa cap ob nb capb (by unfold maxLen at hnb; omega) B n2 c hc ot nt capt (by unfold maxLen at hnt; omega) T W hpl hB hT).mono fun e W' ⟨he, hb⟩ => ?_
  subst he
  have hlt : ∀ x ∈ p0 ++ (p1 ++ ([] ++ (p3 ++ p4))), x.block < W.heap.size := fun x hx => by simpa using hW'.lt x hx
  exact ⟨_, rfl, post_law' (pa := p0 ++ (p1 ++ ([] ++ (p3 ++ p4)))) (pv := []) hW' (fun _ _ _ => trodAll_mk1 (shut_bool Tryz.underlying4 _))
    (trodAll_cons_mk (Below.trod laidOut (by kernel_rfl) (of_decide_eq_true (by kernel_rfl)) h0 hb fun x hx => hlt x (List.mem_append.2 (.inl hx))) (trodAll_cons_mk (Below.trod laidOut (by kernel_rfl) (of_decide_eq_true (by kernel_rfl)) h1 hb fun x hx => hlt x (List.mem_append.2 (.inr (List.mem_append.2 (.inl hx))))) (trodAll_cons_mk (p := []) (shut_int Tryz.underlying3 hw2) (trodAll_mk2 (Below.trod laidOut (by kernel_rfl) (of_decide_eq_true (by kernel_rfl)) h3 hb fun x hx => hlt x (by simp [hx])) (Below.trod laidOut (by kernel_rfl) (of_decide_eq_true (by kernel_rfl)) h4 hb fun x hx => hlt x (by simp [hx])))))) (fun _ _ => rfl) (List.append_nil _).symm hb⟩

theorem topLate_holds : Rows.TopLateSaid :=
  OpenClaim.holds_of_wide 4 Tryz.f4 rfl rfl rfl rfl rfl rfl rfl ⟨rfl, rfl, rfl, rfl, rfl⟩ rfl rfl rfl rfl rfl (by kernel_rfl) Tryz.func4 (by kernel_rfl)
    (of_decide_eq_true (by kernel_rfl)) (by unfold Func.isWrapper; first | (rw [if_pos (by decide +kernel)]; kernel_rfl) | (rw [if_neg (by decide +kernel)]; exact ⟨rfl, rfl⟩))
    (fun os started H enc _ => topLate_lifted os started H enc)
#print axioms topLate_holds
end Go.Proofs.YtlgghomjlhnijaaGreat
