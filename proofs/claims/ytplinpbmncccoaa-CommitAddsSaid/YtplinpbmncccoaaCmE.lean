/-
  commit.find: where the vote for a place is, or belongs.
-/
import Derived.Test.YtplinpbmncccoaaCmB
namespace Go.Proofs.Ytplinpbmncccoaa
namespace CmE
open Go.RowKit
open BlkM WirM WirS CmA CmP CmB

def cmpI (x y : Int) : Int := if x < y then -1 else if y < x then 1 else 0
theorem nan_any (w : World) (x : Int) : Calls Try.prog 216 #[.int .i64 x] w fun e w' => e = .returned (.bool false) ∧ w = w' := by
  have d : (x != x) = false := by simp
  go_enter Try.func216, Try.ntmps216
  go_wp2_with fail
  go_ret
  exact ⟨rfl, rfl⟩
theorem cmp_any (w : World) (x y : Int) : Calls Try.prog 207 #[.int .i64 x, .int .i64 y] w fun e w' => e = .returned (.int .i64 (cmpI x y)) ∧ w = w' := by
  have HN := WirS.hide (fun U z => nan_any U z)
  unfold cmpI
  by_cases h1 : x < y
  · have d1 : decide (x < y) = true := by simpa using h1
    rw [if_pos h1]
    go_enter Try.func207, Try.ntmps207
    go_wp2_with (go_at_call 216; refine (HN.out _ _).mono ?_; rintro e u ⟨rfl, rfl⟩)
    go_ret
    exact ⟨rfl, rfl⟩
  · have d1 : decide (x < y) = false := by simpa using h1
    rw [if_neg h1]
    by_cases h2 : y < x
    · have d2 : decide (y < x) = true := by simpa using h2
      rw [if_pos h2]
      go_enter Try.func207, Try.ntmps207
      go_wp2_with (go_at_call 216; refine (HN.out _ _).mono ?_; rintro e u ⟨rfl, rfl⟩)
      go_ret
      exact ⟨rfl, rfl⟩
    · have d2 : decide (y < x) = false := by simpa using h2
      rw [if_neg h2]
      go_enter Try.func207, Try.ntmps207
      go_wp2_with (go_at_call 216; refine (HN.out _ _).mono ?_; rintro e u ⟨rfl, rfl⟩)
      go_ret
      exact ⟨rfl, rfl⟩
theorem f1_any (w : World) (v : Vt) (k : Int) : Calls Try.prog 206 #[.agg #[.int .i64 v.at', .int .u64 v.sg], .int .i64 k] w fun e w' => e = .returned (.int .i64 (cmpI v.at' k)) ∧ Below w.heap.size w w' := by
  obtain ⟨W0, e0⟩ : ∃ X, X = w.alloc (.cells #[.int .i64 v.at', .int .u64 v.sg] TV) := ⟨_, rfl⟩
  have hA : At W0 w.heap.size TV v.cells := by rw [e0]; exact At.new w _ _
  have k0 : W0.cell? ⟨w.heap.size, 0, none⟩ = some (.int .i64 v.at') := hA.cell 0
  have HB := WirS.hide (show Below w.heap.size w W0 by rw [e0]; exact Below.alloc (Below.refl _ _) (Nat.le_refl _) _)
  have E0 := WirS.hide e0
  have HC := WirS.hide (fun U => cmp_any U v.at' k)
  generalize cmpI v.at' k = r at *
  clear hA e0
  go_enter Try.func206, Try.ntmps206
  go_upto_region 1 with fail
  rw [← E0.out]
  go_wp2_with (go_at_call 207; refine (HC.out _).mono ?_; rintro e u ⟨rfl, rfl⟩)
  go_ret
  exact ⟨rfl, HB.out⟩
theorem has_cut {vs : List Vt} (h : Up vs) (k : Int) : (ofV k vs).isSome = decide ((vs[cut k vs]?.map (·.at')) = some k) := by
  rw [at_cut h k]
  by_cases e : (vs[cut k vs]?.map (·.at')) = some k
  · rw [if_pos e, decide_eq_true e]
    obtain ⟨x, hx, _⟩ := Option.map_eq_some_iff.1 e
    rw [hx]
    rfl
  · rw [if_neg e, decide_eq_false e]
    rfl
structure Br (vs : List Vt) (k : Int) (n i j : Nat) : Prop where
  ij : i ≤ j
  jn : j ≤ n
  lo : ∀ t x, t < i → vs[t]? = some x → x.at' < k
  hi : ∀ t x, j ≤ t → vs[t]? = some x → k ≤ x.at'
theorem Br.up {vs : List Vt} {k : Int} {n i j h : Nat} (b : Br vs k n i j) (hu : Up vs) (h2 : h < j) (x : Vt) (hx : vs[h]? = some x) (hk : x.at' < k) : Br vs k n (h + 1) j := by
  refine ⟨by omega, b.jn, fun t y ht hy => ?_, b.hi⟩
  by_cases e : t = h
  · subst e
    rw [hx] at hy
    cases hy
    exact hk
  · obtain ⟨l1, e1⟩ := List.getElem?_eq_some_iff.1 hy
    obtain ⟨l2, e2⟩ := List.getElem?_eq_some_iff.1 hx
    have := List.pairwise_iff_getElem.1 hu.asc t h l1 l2 (by omega)
    rw [e1, e2] at this
    omega
theorem Br.down {vs : List Vt} {k : Int} {n i j h : Nat} (b : Br vs k n i j) (hu : Up vs) (h1 : i ≤ h) (h2 : h < j) (x : Vt) (hx : vs[h]? = some x) (hk : k ≤ x.at') : Br vs k n i h := by
  have hj := b.jn
  refine ⟨h1, by omega, b.lo, fun t y ht hy => ?_⟩
  by_cases e : t = h
  · subst e
    rw [hx] at hy
    cases hy
    exact hk
  · obtain ⟨l1, e1⟩ := List.getElem?_eq_some_iff.1 hy
    obtain ⟨l2, e2⟩ := List.getElem?_eq_some_iff.1 hx
    have := List.pairwise_iff_getElem.1 hu.asc h t l2 l1 (by omega)
    rw [e1, e2] at this
    omega
def MidF (w : World) (vs : List Vt) (k : Int) (n : Nat) (i j : Value) (U : World) : Prop :=
  ∃ i' j' : Nat, i = .int .i64 (i' : Int) ∧ j = .int .i64 (j' : Int) ∧ Br vs k n i' j' ∧ Below w.heap.size w U
set_option maxRecDepth 10000 in
set_option maxHeartbeats 4000000 in
theorem bs_any (w : World) (a : Option Addr) (n c : Nat) (vs : List Vt) (k : Int) (hv : VtIn w a n c vs) (hu : Up vs) (hn : n ≤ 1000000) :
    Calls Try.prog 205 #[.slice a n c, .int .i64 k, .func (.func 206) #[] #[]] w fun e w' => e = .returned (.tuple #[.int .i64 ((cut k vs : Nat) : Int), .bool (ofV k vs).isSome]) ∧ Below w.heap.size w w' := by
  have hlen := hv.len
  have HV := WirS.hide hv
  have HL := WirS.hide hlen
  have HU := WirS.hide hu
  have HF := WirS.hide (fun U x => f1_any U x k)
  have HST := WirS.hide (show MidF w vs k n (.int .i64 0) (.int .i64 (n : Int)) w from ⟨0, n, rfl, rfl, ⟨Nat.zero_le _, Nat.le_refl _, fun t x ht => absurd ht (by omega), fun t x ht hx => by rw [List.getElem?_eq_none (by omega)] at hx; cases hx⟩, Below.refl _ _⟩)
  clear hv hlen hu
  go_enter Try.func205, Try.ntmps205
  go_wp2_with fail
  go_loopw [9, 10] (fun i j wr => MidF w vs k n i j wr) (fun i j _ => (intOf j).toNat - (intOf i).toNat)
  case atStart => exact HST.out
  case round =>
    clear HST
    obtain ⟨i, j, rfl, rfl, hbr, hBw⟩ := hrel
    have hij := hbr.ij
    have hjn := hbr.jn
    have HBR := WirS.hide hbr
    have HBW := WirS.hide hBw
    clear hbr
    by_cases hlt : i < j
    · have hlt2 : (i : Int) < (j : Int) := by omega
      obtain ⟨s, hs⟩ : ∃ s, i + j = s := ⟨_, rfl⟩
      obtain ⟨h, hh⟩ : ∃ h, s / 2 = h := ⟨_, rfl⟩
      have f1 : IntKind.i64.wrap ((i : Int) + (j : Int)) = (s : Int) := by rw [IntWalk.i64_in _ (by omega)]; omega
      have f2 : IntKind.u64.wrap (s : Int) = (s : Int) := by rw [IntKind.wrap_u64]; omega
      have f3 : (s : Int) / 2 = (h : Int) := by omega
      have f4 : IntKind.i64.wrap (h : Int) = (h : Int) := IntWalk.i64_in _ (by omega)
      have g1 : i ≤ h := by omega
      have g2 : h < j := by omega
      have g3 : h < n := by omega
      have g4 : (h : Int) < (n : Int) := by omega
      obtain ⟨x, B, o, hx, hmem, rfl, hBl, hr⟩ := (HV.out.below hBw).cell g3
      have r0 : wr.cell? ⟨B, o + h * 2, none⟩ = some (.int .i64 x.at') := hr 0 _ rfl
      have r1 : wr.cell? ⟨B, o + h * 2 + 1, none⟩ = some (.int .u64 x.sg) := hr 1 _ rfl
      have HX := WirS.hide hx
      have HIJ := WirS.hide (And.intro hij (And.intro hjn hlt))
      have HG := WirS.hide (And.intro g1 (And.intro g2 g3))
      clear hr hx hmem hBw hs hh g1 g2 g3 hij hjn hlt
      by_cases hk : x.at' < k
      · have hc : cmpI x.at' k = -1 := by unfold cmpI; rw [if_pos hk]
        have HC := WirS.hide (fun U => hc ▸ HF.out U x)
        have HK := WirS.hide hk
        clear hk hc
        go_wp2_with (go_at_call 206; refine (HC.out _).mono ?_; rintro e u ⟨rfl, hb⟩; have HB2 := WirS.hide (HBW.out.trans (hb.mono HBW.out.size)); clear hb)
        go_roundw
        case rel => exact ⟨h + 1, j, by go_num, rfl, HBR.out.up HU.out HG.out.2.1 x HX.out HK.out, HB2.out⟩
        case measure => have := HG.out; have := HIJ.out; simp [intOf]; omega
      · have hc : 0 ≤ cmpI x.at' k := by unfold cmpI; rw [if_neg hk]; split <;> omega
        obtain ⟨r, hr⟩ : ∃ r, cmpI x.at' k = r := ⟨_, rfl⟩
        rw [hr] at hc
        have HC := WirS.hide (fun U => hr ▸ HF.out U x)
        have HK := WirS.hide hk
        have d0 : ¬ r < 0 := by omega
        clear hk hr
        go_wp2_with (go_at_call 206; refine (HC.out _).mono ?_; rintro e u ⟨rfl, hb⟩; have HB2 := WirS.hide (HBW.out.trans (hb.mono HBW.out.size)); clear hb)
        go_roundw
        case rel => exact ⟨i, h, rfl, rfl, HBR.out.down HU.out HG.out.1 HG.out.2.1 x HX.out (by have := HK.out; omega), HB2.out⟩
        case measure => have := HG.out; have := HIJ.out; simp [intOf]; omega
    · obtain rfl : i = j := by omega
      have hcut : cut k vs = i := cut_of k vs i (by rw [HL.out]; exact hjn) HBR.out.lo (fun x hx => HBR.out.hi i x (Nat.le_refl _) hx)
      have hhas := has_cut HU.out k
      rw [hcut] at hhas
      have HCUT := WirS.hide hcut
      have HHAS := WirS.hide hhas
      clear hcut hhas hij hlt
      by_cases hin : i < n
      · have d1 : decide ((i : Int) < (n : Int)) = true := by simp; omega
        obtain ⟨x, B, o, hx, hmem, rfl, hBl, hr⟩ := (HV.out.below hBw).cell hin
        have r0 : wr.cell? ⟨B, o + i * 2, none⟩ = some (.int .i64 x.at') := hr 0 _ rfl
        have r1 : wr.cell? ⟨B, o + i * 2 + 1, none⟩ = some (.int .u64 x.sg) := hr 1 _ rfl
        have g4 : (i : Int) < (n : Int) := by omega
        have hge := HBR.out.hi i x (Nat.le_refl _) hx
        obtain ⟨q, hq⟩ : ∃ q : Bool, (cmpI x.at' k == 0) = q := ⟨_, rfl⟩
        have hq2 : (ofV k vs).isSome = q := by
          rw [HHAS.out, hx, ← hq]
          unfold cmpI
          rw [if_neg (by omega)]
          by_cases e : k < x.at'
          · rw [if_pos e]
            simp
            omega
          · rw [if_neg e]
            simp
            omega
        have HC := WirS.hide (fun U => HF.out U x)
        generalize cmpI x.at' k = r at *
        have HQ := WirS.hide hq2
        clear hr hx hmem hBw hge hq2 hin
        have hq0 : (r == 0) = q := hq
        clear hq
        cases q
        · go_wp2_with (go_at_call 206; refine (HC.out _).mono ?_; rintro e u ⟨rfl, hb⟩; have HB2 := WirS.hide (HBW.out.trans (hb.mono HBW.out.size)); clear hb)
          refine bodyPost_ret (v := .tuple #[.int .i64 (i : Int), .bool false]) (by simp [results, Try.results205, go_sem]) rfl ?_
          exact ⟨by rw [HCUT.out, HQ.out], HB2.out⟩
        · go_wp2_with (go_at_call 206; refine (HC.out _).mono ?_; rintro e u ⟨rfl, hb⟩; have HB2 := WirS.hide (HBW.out.trans (hb.mono HBW.out.size)); clear hb)
          refine bodyPost_ret (v := .tuple #[.int .i64 (i : Int), .bool true]) (by simp [results, Try.results205, go_sem]) rfl ?_
          exact ⟨by rw [HCUT.out, HQ.out], HB2.out⟩
      · have d1 : decide ((i : Int) < (n : Int)) = false := by simp; omega
        have d2 : ¬ ((i : Int) < (n : Int)) := by omega
        have hq2 : (ofV k vs).isSome = false := by
          rw [HHAS.out, List.getElem?_eq_none (by rw [HL.out]; omega)]
          rfl
        have HQ := WirS.hide hq2
        clear hBw hin hq2
        go_wp2_with fail
        refine bodyPost_ret (v := .tuple #[.int .i64 (i : Int), .bool false]) (by simp [results, Try.results205, go_sem]) rfl ?_
        exact ⟨by rw [HCUT.out, HQ.out], HBW.out⟩
theorem find_any (w : World) (a : Option Addr) (n c : Nat) (vs : List Vt) (k : Int) (hv : VtIn w a n c vs) (hu : Up vs) (hn : n ≤ 1000000) :
    Calls Try.prog 168 #[.slice a n c, .int .i64 k] w fun e w' => e = .returned (.tuple #[.int .i64 ((cut k vs : Nat) : Int), .bool (ofV k vs).isSome]) ∧ Below w.heap.size w w' := by
  have HC := WirS.hide (bs_any w a n c vs k hv hu hn)
  generalize (cut k vs : Nat) = q at *
  generalize (ofV k vs).isSome = r at *
  clear hv hu
  go_enter Try.func168, Try.ntmps168
  go_wp2_with (go_at_call 205; refine (HC.out).mono ?_; rintro e u ⟨rfl, hb⟩)
  refine bodyPost_ret (v := .tuple #[.int .i64 (q : Int), .bool r]) (by simp [results, Try.results168, go_sem]) rfl ?_
  exact ⟨rfl, hb⟩
end CmE
end Go.Proofs.Ytplinpbmncccoaa
