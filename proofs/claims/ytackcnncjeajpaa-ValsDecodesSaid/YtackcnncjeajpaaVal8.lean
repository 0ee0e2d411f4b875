/-
  ValX, ValY, ValMD, in one text.
-/
import Derived.Test.YtackcnncjeajpaaVal2
import Derived.Test.YtackcnncjeajpaaVal1
import Derived.Test.YtackcnncjeajpaaWirJ
import Derived.Test.YtackcnncjeajpaaVal4
import Derived.Test.YtackcnncjeajpaaVal5
import Derived.Test.YtackcnncjeajpaaKitB
namespace Go.Proofs.Ytackcnncjeajpaa
namespace ValX
open Go.RowKit
open BlkM WirM WirS ValA ValB ValC ValD ValE ValH ValM ValN ValP ValQ

theorem up_ext : ∀ {l m : List Vd}, Up l → Up m → (∀ x, x ∈ l ↔ x ∈ m) → l = m
  | [], [], _, _, _ => rfl
  | [], y :: m, _, _, h => by have := (h y).2 (by simp); simp at this
  | x :: l, [], _, _, h => by have := (h x).1 (by simp); simp at this
  | x :: l, y :: m, hl, hm, h => by
    obtain ⟨h1, h2⟩ := List.pairwise_cons.1 hl
    obtain ⟨h3, h4⟩ := List.pairwise_cons.1 hm
    have hx := (h x).1 (by simp)
    have hy := (h y).2 (by simp)
    have e : x = y := by
      rcases List.mem_cons.1 hx with e | hx
      · exact e
      · rcases List.mem_cons.1 hy with e | hy
        · exact e.symm
        · have := h3 x hx
          have := h1 y hy
          omega
    subst e
    rw [up_ext h2 h4 (fun z => ⟨fun hz => ?_, fun hz => ?_⟩)]
    · rcases List.mem_cons.1 ((h z).1 (by simp [hz])) with e | h5
      · subst e
        have := h1 z hz
        omega
      · exact h5
    · rcases List.mem_cons.1 ((h z).2 (by simp [hz])) with e | h5
      · subst e
        have := h3 z hz
        omega
      · exact h5
theorem up_inj {l : List Vd} (hl : Up l) {x y : Vd} (hx : x ∈ l) (hy : y ∈ l) (h : x.rk = y.rk) : x = y := by
  induction l with
  | nil => cases hx
  | cons z l ih =>
    obtain ⟨h1, h2⟩ := List.pairwise_cons.1 hl
    rcases List.mem_cons.1 hx with e | hx
    · rcases List.mem_cons.1 hy with e2 | hy
      · rw [e, e2]
      · rw [e] at h
        have := h1 y hy
        omega
    · rcases List.mem_cons.1 hy with e2 | hy
      · rw [e2] at h
        have := h1 x hx
        omega
      · exact ih h2 hx hy
theorem mem_mrg (os cs : List Vd) : Up os → Up cs → ∀ x, x ∈ mrg os cs ↔ x ∈ cs ∨ (x ∈ os ∧ ∀ c ∈ cs, c.rk ≠ x.rk) := by
  induction os, cs using mrg.induct with
  | case1 cs => intro _ _ x; rw [mrg_nil_left]; simp
  | case2 os h => intro _ _ x; rw [mrg_nil_right]; simp
  | case3 o os c cs h ih =>
    intro ho hc x
    obtain ⟨h1, h2⟩ := List.pairwise_cons.1 ho
    obtain ⟨h3, h4⟩ := List.pairwise_cons.1 hc
    rw [mrg_lt os cs h, List.mem_cons, ih h2 hc x]
    constructor
    · rintro (e | hx | ⟨hx, hn⟩)
      · subst e
        refine .inr ⟨by simp, fun c' hc' => ?_⟩
        rcases List.mem_cons.1 hc' with e | hc'
        · subst e
          omega
        · have := h3 c' hc'
          omega
      · exact .inl hx
      · exact .inr ⟨by simp [hx], hn⟩
    · rintro (hx | ⟨hx, hn⟩)
      · exact .inr (.inl hx)
      · rcases List.mem_cons.1 hx with e | hx
        · exact .inl e
        · exact .inr (.inr ⟨hx, hn⟩)
  | case4 o os c cs h h2 ih =>
    intro ho hc x
    obtain ⟨h1, h5⟩ := List.pairwise_cons.1 ho
    obtain ⟨h3, h4⟩ := List.pairwise_cons.1 hc
    rw [mrg_eq os cs h2, List.mem_cons, ih h5 h4 x]
    constructor
    · rintro (e | hx | ⟨hx, hn⟩)
      · exact .inl (by simp [e])
      · exact .inl (by simp [hx])
      · refine .inr ⟨by simp [hx], fun c' hc' => ?_⟩
        rcases List.mem_cons.1 hc' with e | hc'
        · subst e
          have := h1 x hx
          omega
        · exact hn c' hc'
    · rintro (hx | ⟨hx, hn⟩)
      · rcases List.mem_cons.1 hx with e | hx
        · exact .inl e
        · exact .inr (.inl hx)
      · rcases List.mem_cons.1 hx with e | hx
        · subst e
          exact absurd h2.symm (hn c (by simp))
        · exact .inr (.inr ⟨hx, fun c' hc' => hn c' (by simp [hc'])⟩)
  | case5 o os c cs h h2 ih =>
    intro ho hc x
    obtain ⟨h1, h5⟩ := List.pairwise_cons.1 ho
    obtain ⟨h3, h4⟩ := List.pairwise_cons.1 hc
    rw [mrg_gt os cs (by omega), List.mem_cons, ih ho h4 x]
    constructor
    · rintro (e | hx | ⟨hx, hn⟩)
      · exact .inl (by simp [e])
      · exact .inl (by simp [hx])
      · refine .inr ⟨hx, fun c' hc' => ?_⟩
        rcases List.mem_cons.1 hc' with e | hc'
        · subst e
          rcases List.mem_cons.1 hx with e | hx
          · subst e
            omega
          · have := h1 x hx
            omega
        · exact hn c' hc'
    · rintro (hx | ⟨hx, hn⟩)
      · rcases List.mem_cons.1 hx with e | hx
        · exact .inl e
        · exact .inr (.inl hx)
      · exact .inr (.inr ⟨hx, fun c' hc' => hn c' (by simp [hc'])⟩)
theorem up_mrg (os cs : List Vd) : Up os → Up cs → Up (mrg os cs) := by
  induction os, cs using mrg.induct with
  | case1 cs => intro _ h; rw [mrg_nil_left]; exact h
  | case2 os h => intro h _; rw [mrg_nil_right]; exact h
  | case3 o os c cs h ih =>
    intro ho hc
    obtain ⟨h1, h2⟩ := List.pairwise_cons.1 ho
    rw [mrg_lt os cs h]
    refine List.pairwise_cons.2 ⟨fun x hx => ?_, ih h2 hc⟩
    rcases mrg_mem _ _ x hx with hx | hx
    · exact h1 x hx
    · rcases List.mem_cons.1 hx with e | hx
      · subst e
        exact h
      · have := (List.pairwise_cons.1 hc).1 x hx
        omega
  | case4 o os c cs h h2 ih =>
    intro ho hc
    obtain ⟨h1, h5⟩ := List.pairwise_cons.1 ho
    obtain ⟨h3, h4⟩ := List.pairwise_cons.1 hc
    rw [mrg_eq os cs h2]
    refine List.pairwise_cons.2 ⟨fun x hx => ?_, ih h5 h4⟩
    rcases mrg_mem _ _ x hx with hx | hx
    · have := h1 x hx
      omega
    · exact h3 x hx
  | case5 o os c cs h h2 ih =>
    intro ho hc
    obtain ⟨h1, h5⟩ := List.pairwise_cons.1 ho
    obtain ⟨h3, h4⟩ := List.pairwise_cons.1 hc
    rw [mrg_gt os cs (by omega)]
    refine List.pairwise_cons.2 ⟨fun x hx => ?_, ih ho h4⟩
    rcases mrg_mem _ _ x hx with hx | hx
    · rcases List.mem_cons.1 hx with e | hx
      · subst e
        omega
      · have := h1 x hx
        omega
    · exact h3 x hx
/-- What is left behind changes. -/
def res (l c : List Vd) : List Vd := flt (mrg l c)
theorem up_flt {l : List Vd} (h : Up l) : Up (flt l) := h.sublist List.filter_sublist
theorem mem_flt {l : List Vd} {x : Vd} : x ∈ flt l ↔ x ∈ l ∧ x.p ≠ 0 := by simp [flt]
theorem up_res {l c : List Vd} (hl : Up l) (hc : Up c) : Up (res l c) := up_flt (up_mrg l c hl hc)
theorem mem_res {l c : List Vd} (hl : Up l) (hc : Up c) (x : Vd) : x ∈ res l c ↔ (x ∈ c ∨ (x ∈ l ∧ ∀ z ∈ c, z.rk ≠ x.rk)) ∧ x.p ≠ 0 := by
  unfold res
  rw [mem_flt, mem_mrg l c hl hc]
theorem flt_cons (x : Vd) (l : List Vd) : flt (x :: l) = (if x.p = 0 then [] else [x]) ++ flt l := by
  unfold flt
  by_cases h : x.p = 0 <;> simp [h]
theorem flt_app (l m : List Vd) : flt (l ++ m) = flt l ++ flt m := by simp [flt]
theorem res_len (l c : List Vd) : (res l c).length ≤ l.length + (flt c).length := by
  unfold res
  induction l, c using mrg.induct with
  | case1 cs => rw [mrg_nil_left]; simp
  | case2 os h =>
    rw [mrg_nil_right]
    have := List.length_filter_le (fun v : Vd => v.p != 0) os
    unfold flt
    omega
  | case3 o os c cs h ih =>
    rw [mrg_lt os cs h, flt_cons, List.length_append, List.length_cons]
    have : (if o.p = 0 then ([] : List Vd) else [o]).length ≤ 1 := by split <;> simp
    omega
  | case4 o os c cs h h2 ih =>
    rw [mrg_eq os cs h2, flt_cons, flt_cons, List.length_append, List.length_append, List.length_cons]
    omega
  | case5 o os c cs h h2 ih =>
    rw [mrg_gt os cs (by omega), flt_cons, flt_cons, List.length_append, List.length_append]
    omega
theorem chgE_zero (vs : List Vd) : ∀ (ch : List Vd) (q : Option Vd), chgE vs q ch = 0 ↔ asc q ch ∧ ∀ x ∈ ch, (0 ≤ x.p ∧ x.p ≤ 4611686018427387904) ∧ (x.p = 0 → 0 ≤ ixK x.key vs 0)
  | [], _ => by simp [chgE, asc]
  | x :: l, q => by
    rw [chgE]
    by_cases h : nextE 0 q x = 0
    · rw [if_neg (by simp [h])]
      obtain ⟨h1, h2⟩ := (nextE_zero 0 q x).1 h
      by_cases h3 : x.p = 0 ∧ ¬ 0 ≤ ixK x.key vs 0
      · rw [if_pos h3]
        simp only [asc, List.forall_mem_cons]
        constructor
        · intro h; cases h
        · rintro ⟨_, ⟨_, h4⟩, _⟩
          exact absurd (h4 h3.1) h3.2
      · rw [if_neg h3, chgE_zero vs l (some x)]
        have h4 : x.p = 0 → 0 ≤ ixK x.key vs 0 := fun e => Decidable.byContradiction fun hn => h3 ⟨e, hn⟩
        simp only [asc, h1, true_and, List.forall_mem_cons, h2, and_self]
        exact ⟨fun ⟨a, b⟩ => ⟨a, h4, b⟩, fun ⟨a, _, b⟩ => ⟨a, b⟩⟩
    · rw [if_pos h]
      simp only [h, false_iff, asc]
      rintro ⟨⟨h1, _⟩, h2⟩
      exact h ((nextE_zero 0 q x).2 ⟨h1, (h2 x (by simp)).1⟩)
/-- Changes that a set takes. -/
structure Ch (l c : List Vd) : Prop where
  up : Up c
  pow : ∀ x ∈ c, 0 ≤ x.p ∧ x.p ≤ 4611686018427387904
  has : ∀ x ∈ c, x.p = 0 → ∃ y ∈ l, y.key = x.key
theorem Ch.zero {l c : List Vd} (h : Ch l c) : chgE l none c = 0 :=
  (chgE_zero l c none).2 ⟨(asc_up c none).2 ⟨h.up, fun p hp => by cases hp⟩, fun x hx => ⟨h.pow x hx, fun e => (ixK_iff _ _).2 (h.has x hx e)⟩⟩
theorem chgd_of {l c r : List Vd} (hl : chk l = 0) (h : Ch l c) (hr : res l c = r) (h0 : r.length ≠ 0) (h64 : r.length ≤ 64) : chgd l c = (0, r) := by
  have hr' : flt (mrg l c) = r := hr
  unfold chgd
  rw [if_neg (by simp [hl]), if_neg (by simp [h.zero]), hr', if_neg h0, if_neg (by omega)]
theorem chgd_no {l c : List Vd} (hl : chk l = 0) (h : Ch l c) (h0 : (res l c).length = 0) : chgd l c = (6, []) := by
  have h0' : (flt (mrg l c)).length = 0 := h0
  unfold chgd
  rw [if_neg (by simp [hl]), if_neg (by simp [h.zero]), if_pos h0']
theorem chk_res {l c : List Vd} (hl : chk l = 0) (h : Ch l c) (h0 : (res l c).length ≠ 0) (h64 : (res l c).length ≤ 64) : chk (res l c) = 0 := by
  obtain ⟨_, _, hu, hp⟩ := (chk_up l).1 hl
  refine (chk_up _).2 ⟨by omega, h64, up_res hu h.up, fun x hx => ?_⟩
  obtain ⟨hx, hne⟩ := (mem_res hu h.up x).1 hx
  rcases hx with hx | ⟨hx, _⟩
  · have := h.pow x hx
    omega
  · exact hp x hx
/-- A validator, its power 0. -/
def Vd.off (v : Vd) : Vd := { v with p := 0 }
theorem off_rk (v : Vd) : (Vd.off v).rk = v.rk := rfl
theorem off_key (v : Vd) : (Vd.off v).key = v.key := rfl
/-- The changes that make a set another one. -/
def mk : List Vd → List Vd → List Vd
  | [], m => m
  | l, [] => l.map Vd.off
  | x :: l, y :: m => if x.rk < y.rk then Vd.off x :: mk l (y :: m) else if y.rk < x.rk then y :: mk (x :: l) m else (if ValE.Vd.same x y = true then [] else [y]) ++ mk l m
termination_by a b => a.length + b.length
theorem mk_nil_left (m : List Vd) : mk [] m = m := by simp [mk]
theorem mk_nil_right (l : List Vd) : mk l [] = l.map Vd.off := by cases l <;> simp [mk]
theorem mk_lt {x y : Vd} (l m : List Vd) (h : x.rk < y.rk) : mk (x :: l) (y :: m) = Vd.off x :: mk l (y :: m) := by rw [mk, if_pos h]
theorem mk_gt {x y : Vd} (l m : List Vd) (h : y.rk < x.rk) : mk (x :: l) (y :: m) = y :: mk (x :: l) m := by rw [mk, if_neg (by omega), if_pos h]
theorem mk_eq {x y : Vd} (l m : List Vd) (h : x.rk = y.rk) : mk (x :: l) (y :: m) = (if ValE.Vd.same x y = true then [] else [y]) ++ mk l m := by rw [mk, if_neg (by omega), if_neg (by omega)]
theorem mem_mk (l m : List Vd) : Up l → Up m → ∀ z, z ∈ mk l m ↔ (z ∈ m ∧ z ∉ l) ∨ (∃ y ∈ l, (∀ c ∈ m, c.rk ≠ y.rk) ∧ z = Vd.off y) := by
  induction l, m using mk.induct with
  | case1 m => intro _ _ z; rw [mk_nil_left]; simp
  | case2 l h =>
    intro _ _ z
    rw [mk_nil_right]
    simp only [List.mem_map, List.not_mem_nil, false_and, false_or, false_implies, implies_true, true_and]
    exact ⟨fun ⟨a, b, c⟩ => ⟨a, b, c.symm⟩, fun ⟨a, b, c⟩ => ⟨a, b, c.symm⟩⟩
  | case3 x l y m h ih =>
    intro hl hm z
    obtain ⟨h1, h2⟩ := List.pairwise_cons.1 hl
    obtain ⟨h3, h4⟩ := List.pairwise_cons.1 hm
    have hx : ∀ c ∈ y :: m, c.rk ≠ x.rk := fun c hc => by
      rcases List.mem_cons.1 hc with e | hc
      · subst e
        omega
      · have := h3 c hc
        omega
    rw [mk_lt l m h, List.mem_cons, ih h2 hm z]
    constructor
    · rintro (e | ⟨hz, hn⟩ | ⟨w, hw, hn, e⟩)
      · exact .inr ⟨x, by simp, hx, e⟩
      · refine .inl ⟨hz, fun hq => ?_⟩
        rcases List.mem_cons.1 hq with e | hq
        · subst e
          exact hx z hz rfl
        · exact hn hq
      · exact .inr ⟨w, by simp [hw], hn, e⟩
    · rintro (⟨hz, hn⟩ | ⟨w, hw, hn, e⟩)
      · exact .inr (.inl ⟨hz, fun hq => hn (by simp [hq])⟩)
      · rcases List.mem_cons.1 hw with e2 | hw
        · subst e2
          exact .inl e
        · exact .inr (.inr ⟨w, hw, hn, e⟩)
  | case4 x l y m h h2 ih =>
    intro hl hm z
    obtain ⟨h1, h5⟩ := List.pairwise_cons.1 hl
    obtain ⟨h3, h4⟩ := List.pairwise_cons.1 hm
    have hy : ∀ w ∈ x :: l, y.rk ≠ w.rk := fun c hc => by
      rcases List.mem_cons.1 hc with e | hc
      · subst e
        omega
      · have := h1 c hc
        omega
    rw [mk_gt l m h2, List.mem_cons, ih hl h4 z]
    constructor
    · rintro (e | ⟨hz, hn⟩ | ⟨w, hw, hn, e⟩)
      · subst e
        exact .inl ⟨by simp, fun hq => hy z hq rfl⟩
      · exact .inl ⟨by simp [hz], hn⟩
      · refine .inr ⟨w, hw, fun c hc => ?_, e⟩
        rcases List.mem_cons.1 hc with e2 | hc
        · subst e2
          exact hy w hw
        · exact hn c hc
    · rintro (⟨hz, hn⟩ | ⟨w, hw, hn, e⟩)
      · rcases List.mem_cons.1 hz with e | hz
        · exact .inl e
        · exact .inr (.inl ⟨hz, hn⟩)
      · exact .inr (.inr ⟨w, hw, fun c hc => hn c (by simp [hc]), e⟩)
  | case5 x l y m h h2 ih =>
    intro hl hm z
    obtain ⟨h1, h5⟩ := List.pairwise_cons.1 hl
    obtain ⟨h3, h4⟩ := List.pairwise_cons.1 hm
    have he : x.rk = y.rk := by omega
    rw [mk_eq l m he, List.mem_append, ih h5 h4 z]
    have hif : z ∈ (if ValE.Vd.same x y = true then ([] : List Vd) else [y]) ↔ z = y ∧ x ≠ y := by
      by_cases hs : ValE.Vd.same x y = true
      · rw [if_pos hs]
        have := (ValE.Vd.same_iff x y).1 hs
        simp [this]
      · rw [if_neg hs]
        have : x ≠ y := fun e => hs ((ValE.Vd.same_iff x y).2 e)
        simp [this]
    rw [hif]
    constructor
    · rintro (⟨e, hne⟩ | ⟨hz, hn⟩ | ⟨w, hw, hn, e⟩)
      · subst e
        refine .inl ⟨by simp, fun hq => ?_⟩
        rcases List.mem_cons.1 hq with e | hq
        · exact hne e.symm
        · have := h1 z hq
          omega
      · refine .inl ⟨by simp [hz], fun hq => ?_⟩
        rcases List.mem_cons.1 hq with e | hq
        · subst e
          have := h3 z hz
          omega
        · exact hn hq
      · refine .inr ⟨w, by simp [hw], fun c hc => ?_, e⟩
        rcases List.mem_cons.1 hc with e2 | hc
        · subst e2
          have := h1 w hw
          omega
        · exact hn c hc
    · rintro (⟨hz, hn⟩ | ⟨w, hw, hn, e⟩)
      · rcases List.mem_cons.1 hz with e | hz
        · exact .inl ⟨e, fun e2 => hn (by rw [e, ← e2]; simp)⟩
        · exact .inr (.inl ⟨hz, fun hq => hn (by simp [hq])⟩)
      · rcases List.mem_cons.1 hw with e2 | hw
        · subst e2
          exact absurd he.symm (hn y (by simp))
        · exact .inr (.inr ⟨w, hw, fun c hc => hn c (by simp [hc]), e⟩)
theorem up_map_off : ∀ {l : List Vd}, Up l → Up (l.map Vd.off) := fun h => List.pairwise_map.2 h
theorem up_mk (l m : List Vd) : Up l → Up m → Up (mk l m) := by
  have key : ∀ {l m : List Vd} (hl : Up l) (hm : Up m) (b : Int), (∀ x ∈ l, b < x.rk) → (∀ x ∈ m, b < x.rk) → ∀ z ∈ mk l m, b < z.rk := fun hl hm b h1 h2 z hz => by
    rcases (mem_mk _ _ hl hm z).1 hz with ⟨hz, _⟩ | ⟨y, hy, _, e⟩
    · exact h2 z hz
    · rw [e, off_rk]
      exact h1 y hy
  induction l, m using mk.induct with
  | case1 m => intro _ h; rw [mk_nil_left]; exact h
  | case2 l h => intro h _; rw [mk_nil_right]; exact up_map_off h
  | case3 x l y m h ih =>
    intro hl hm
    obtain ⟨h1, h2⟩ := List.pairwise_cons.1 hl
    rw [mk_lt l m h]
    refine List.pairwise_cons.2 ⟨fun z hz => ?_, ih h2 hm⟩
    rw [off_rk]
    exact key h2 hm _ h1 (fun c hc => by
      rcases List.mem_cons.1 hc with e | hc
      · subst e
        exact h
      · have := (List.pairwise_cons.1 hm).1 c hc
        omega) z hz
  | case4 x l y m h h2 ih =>
    intro hl hm
    obtain ⟨h3, h4⟩ := List.pairwise_cons.1 hm
    rw [mk_gt l m h2]
    refine List.pairwise_cons.2 ⟨fun z hz => ?_, ih hl h4⟩
    exact key hl h4 _ (fun c hc => by
      rcases List.mem_cons.1 hc with e | hc
      · subst e
        exact h2
      · have := (List.pairwise_cons.1 hl).1 c hc
        omega) h3 z hz
  | case5 x l y m h h2 ih =>
    intro hl hm
    obtain ⟨h1, h5⟩ := List.pairwise_cons.1 hl
    obtain ⟨h3, h4⟩ := List.pairwise_cons.1 hm
    rw [mk_eq l m (by omega)]
    by_cases hs : ValE.Vd.same x y = true
    · rw [if_pos hs]
      exact ih h5 h4
    · rw [if_neg hs]
      exact List.pairwise_cons.2 ⟨fun z hz => key h5 h4 _ (fun c hc => by have := h1 c hc; omega) h3 z hz, ih h5 h4⟩
theorem mk_flt (l m : List Vd) : (flt (mk l m)).length ≤ m.length := by
  induction l, m using mk.induct with
  | case1 m => rw [mk_nil_left]; exact List.length_filter_le _ m
  | case2 l h =>
    rw [mk_nil_right]
    have : flt (l.map Vd.off) = [] := List.filter_eq_nil_iff.2 (fun x hx => by
      obtain ⟨y, _, rfl⟩ := List.mem_map.1 hx
      simp [Vd.off])
    rw [this]
    simp
  | case3 x l y m h ih =>
    rw [mk_lt l m h, flt_cons, if_pos (show (Vd.off x).p = 0 from rfl)]
    exact ih
  | case4 x l y m h h2 ih =>
    rw [mk_gt l m h2, flt_cons, List.length_append, List.length_cons]
    have : (if y.p = 0 then ([] : List Vd) else [y]).length ≤ 1 := by split <;> simp
    omega
  | case5 x l y m h h2 ih =>
    rw [mk_eq l m (by omega), flt_app, List.length_append, List.length_cons]
    have : (flt (if ValE.Vd.same x y = true then ([] : List Vd) else [y])).length ≤ 1 := by
      refine Nat.le_trans (List.length_filter_le _ _) ?_
      split <;> simp
    omega
theorem mk_ok (l m : List Vd) (h1 : ∀ x ∈ l, x.ok) (h2 : ∀ x ∈ m, x.ok) : ∀ x ∈ mk l m, x.ok := by
  have off : ∀ {x : Vd}, x.ok → (Vd.off x).ok := fun h => ⟨h.1, h.2, h.3, h.4, by simp [Vd.off], by simp [Vd.off]⟩
  induction l, m using mk.induct with
  | case1 m => rw [mk_nil_left]; exact h2
  | case2 l h =>
    rw [mk_nil_right]
    intro x hx
    obtain ⟨y, hy, rfl⟩ := List.mem_map.1 hx
    exact off (h1 y hy)
  | case3 x l y m h ih =>
    rw [mk_lt l m h]
    intro z hz
    rcases List.mem_cons.1 hz with e | hz
    · subst e
      exact off (h1 x (by simp))
    · exact ih (fun z hz => h1 z (by simp [hz])) h2 z hz
  | case4 x l y m h h3 ih =>
    rw [mk_gt l m h3]
    intro z hz
    rcases List.mem_cons.1 hz with e | hz
    · subst e
      exact h2 z (by simp)
    · exact ih h1 (fun z hz => h2 z (by simp [hz])) z hz
  | case5 x l y m h h3 ih =>
    rw [mk_eq l m (by omega)]
    intro z hz
    rcases List.mem_append.1 hz with hz | hz
    · split at hz
      · cases hz
      · obtain rfl : z = y := by simpa using hz
        exact h2 z (by simp)
    · exact ih (fun z hz => h1 z (by simp [hz])) (fun z hz => h2 z (by simp [hz])) z hz
theorem mk_len (l m : List Vd) : (mk l m).length ≤ l.length + m.length := by
  induction l, m using mk.induct with
  | case1 m => rw [mk_nil_left]; simp
  | case2 l h => rw [mk_nil_right]; simp
  | case3 x l y m h ih => rw [mk_lt l m h]; simp only [List.length_cons] at ih ⊢; omega
  | case4 x l y m h h2 ih => rw [mk_gt l m h2]; simp only [List.length_cons] at ih ⊢; omega
  | case5 x l y m h h2 ih =>
    rw [mk_eq l m (by omega), List.length_append]
    have : (if ValE.Vd.same x y = true then ([] : List Vd) else [y]).length ≤ 1 := by split <;> simp
    simp only [List.length_cons] at ih ⊢
    omega
section
variable {l m : List Vd} (hl : chk l = 0) (hm : chk m = 0)
include hl hm
theorem ch_mk : Ch l (mk l m) := by
  obtain ⟨_, _, ul, pl⟩ := (chk_up l).1 hl
  obtain ⟨_, _, um, pm⟩ := (chk_up m).1 hm
  refine ⟨up_mk l m ul um, fun x hx => ?_, fun x hx h0 => ?_⟩
  · rcases (mem_mk l m ul um x).1 hx with ⟨hx, _⟩ | ⟨y, _, _, e⟩
    · have := pm x hx
      omega
    · rw [e]
      simp [Vd.off]
  · rcases (mem_mk l m ul um x).1 hx with ⟨hx, _⟩ | ⟨y, hy, _, e⟩
    · have := pm x hx
      omega
    · exact ⟨y, hy, by rw [e, off_key]⟩
theorem res_mk : res l (mk l m) = m := by
  obtain ⟨_, _, ul, pl⟩ := (chk_up l).1 hl
  obtain ⟨_, _, um, pm⟩ := (chk_up m).1 hm
  have ub := up_mk l m ul um
  refine up_ext (up_res ul ub) um (fun x => ?_)
  rw [mem_res ul ub]
  constructor
  · rintro ⟨hx | ⟨hx, hn⟩, h0⟩
    · rcases (mem_mk l m ul um x).1 hx with ⟨hx, _⟩ | ⟨y, _, _, e⟩
      · exact hx
      · rw [e] at h0
        exact absurd rfl h0
    · by_cases hz : ∃ z ∈ m, z.rk = x.rk
      · obtain ⟨z, hz, he⟩ := hz
        by_cases hzl : z ∈ l
        · rw [← up_inj ul hzl hx he]
          exact hz
        · exact absurd he (hn z ((mem_mk l m ul um z).2 (.inl ⟨hz, hzl⟩)))
      · exact absurd rfl (hn (Vd.off x) ((mem_mk l m ul um _).2 (.inr ⟨x, hx, fun c hc e => hz ⟨c, hc, e⟩, rfl⟩)))
  · intro hx
    have hp := pm x hx
    refine ⟨?_, by omega⟩
    by_cases hxl : x ∈ l
    · refine .inr ⟨hxl, fun z hz e => ?_⟩
      rcases (mem_mk l m ul um z).1 hz with ⟨hz, hn⟩ | ⟨y, _, hn, e2⟩
      · exact hn (by rw [up_inj um hz hx e]; exact hxl)
      · rw [e2, off_rk] at e
        exact hn x hx e.symm
    · exact .inl ((mem_mk l m ul um x).2 (.inl ⟨hx, hxl⟩))
theorem made_all : chgd l (mk l m) = (0, m) := by
  obtain ⟨h0, h64, _, _⟩ := (chk_up m).1 hm
  exact chgd_of hl (ch_mk hl hm) (res_mk hl hm) (by omega) h64
/-- First some of the changes, then those of the other keys. -/
theorem made_two (b1 b2 : List Vd) (u1 : Up b1) (u2 : Up b2) (hb : ∀ x, x ∈ mk l m ↔ x ∈ b1 ∨ x ∈ b2) (hd : ∀ x ∈ b1, ∀ y ∈ b2, x.rk ≠ y.rk) (hs : l.length + (flt b1).length ≤ 64) :
    chgd l b1 = (6, []) ∨ ∃ x, chgd l b1 = (0, x) ∧ chgd x b2 = (0, m) := by
  obtain ⟨_, _, ul, pl⟩ := (chk_up l).1 hl
  obtain ⟨m0, m64, um, pm⟩ := (chk_up m).1 hm
  have hC := ch_mk hl hm
  have c1 : Ch l b1 := ⟨u1, fun x hx => hC.pow x ((hb x).2 (.inl hx)), fun x hx => hC.has x ((hb x).2 (.inl hx))⟩
  have hlen := res_len l b1
  by_cases h0 : (res l b1).length = 0
  · exact .inl (chgd_no hl c1 h0)
  · refine .inr ⟨res l b1, chgd_of hl c1 rfl h0 (by omega), ?_⟩
    have c2 : Ch (res l b1) b2 := ⟨u2, fun x hx => hC.pow x ((hb x).2 (.inr hx)), fun x hx e => by
      rcases (mem_mk l m ul um x).1 ((hb x).2 (.inr hx)) with ⟨hx, _⟩ | ⟨y, hy, _, e2⟩
      · have := pm x hx
        omega
      · have := pl y hy
        exact ⟨y, (mem_res ul u1 y).2 ⟨.inr ⟨hy, fun z hz e3 => hd z hz x hx (by rw [e2, off_rk]; exact e3)⟩, by omega⟩, by rw [e2, off_key]⟩⟩
    refine chgd_of (chk_res hl c1 h0 (by omega)) c2 ?_ (by omega) m64
    have ub := up_mk l m ul um
    rw [← res_mk hl hm]
    refine up_ext (up_res (up_res ul u1) u2) (up_res ul ub) (fun x => ?_)
    rw [mem_res (up_res ul u1) u2, mem_res ul u1, mem_res ul ub, hb]
    constructor
    · rintro ⟨hx | ⟨⟨hx | ⟨hx, hn⟩, h0⟩, hn2⟩, hp⟩
      · exact ⟨.inl (.inr hx), hp⟩
      · exact ⟨.inl (.inl hx), hp⟩
      · refine ⟨.inr ⟨hx, fun z hz => ?_⟩, hp⟩
        rcases (hb z).1 hz with hz | hz
        · exact hn z hz
        · exact hn2 z hz
    · rintro ⟨(hx | hx) | ⟨hx, hn⟩, hp⟩
      · exact ⟨.inr ⟨⟨.inl hx, hp⟩, fun z hz e => hd x hx z hz e.symm⟩, hp⟩
      · exact ⟨.inl hx, hp⟩
      · exact ⟨.inr ⟨⟨.inr ⟨hx, fun z hz => hn z ((hb z).2 (.inl hz))⟩, hp⟩, fun z hz => hn z ((hb z).2 (.inr hz))⟩, hp⟩
theorem made_cut (k : Nat) (hs : l.length + m.length ≤ 64) : chgd l ((mk l m).take k) = (6, []) ∨ ∃ x, chgd l ((mk l m).take k) = (0, x) ∧ chgd x ((mk l m).drop k) = (0, m) := by
  obtain ⟨_, _, ul, _⟩ := (chk_up l).1 hl
  obtain ⟨_, _, um, _⟩ := (chk_up m).1 hm
  have ub := up_mk l m ul um
  have hap : Up ((mk l m).take k ++ (mk l m).drop k) := by rw [List.take_append_drop]; exact ub
  obtain ⟨u1, u2, hd⟩ := List.pairwise_append.1 hap
  have hf := mk_flt l m
  have hf2 : (flt ((mk l m).take k ++ (mk l m).drop k)).length ≤ m.length := by rw [List.take_append_drop]; exact hf
  rw [flt_app, List.length_append] at hf2
  exact made_two hl hm _ _ u1 u2 (fun x => by rw [← List.mem_append, List.take_append_drop]) (fun x hx y hy e => by have := hd x hx y hy; omega) (by omega)
theorem made_cut2 (k : Nat) (hs : l.length + m.length ≤ 64) : chgd l ((mk l m).drop k) = (6, []) ∨ ∃ x, chgd l ((mk l m).drop k) = (0, x) ∧ chgd x ((mk l m).take k) = (0, m) := by
  obtain ⟨_, _, ul, _⟩ := (chk_up l).1 hl
  obtain ⟨_, _, um, _⟩ := (chk_up m).1 hm
  have ub := up_mk l m ul um
  have hap : Up ((mk l m).take k ++ (mk l m).drop k) := by rw [List.take_append_drop]; exact ub
  obtain ⟨u1, u2, hd⟩ := List.pairwise_append.1 hap
  have hf := mk_flt l m
  have hf2 : (flt ((mk l m).take k ++ (mk l m).drop k)).length ≤ m.length := by rw [List.take_append_drop]; exact hf
  rw [flt_app, List.length_append] at hf2
  exact made_two hl hm _ _ u2 u1 (fun x => by rw [_root_.or_comm, ← List.mem_append, List.take_append_drop]) (fun x hx y hy e => by have := hd y hy x hx; omega) (by omega)
end
theorem res_nil {l : List Vd} (hl : chk l = 0) : chgd l [] = (0, l) := by
  obtain ⟨h0, h64, _, pl⟩ := (chk_up l).1 hl
  have h : res l [] = l := by
    unfold res
    rw [mrg_nil_right]
    exact List.filter_eq_self.2 (fun x hx => by have := pl x hx; simp; omega)
  exact chgd_of hl (Ch.mk List.Pairwise.nil (fun x hx => by cases hx) (fun x hx => by cases hx)) h (by omega) h64
end ValX
end Go.Proofs.Ytackcnncjeajpaa

namespace Go.Proofs.Ytackcnncjeajpaa
namespace ValY
open Go.RowKit
open BlkM WirM WirS ValA ValB ValC ValD ValE ValP ValQ ValX
open WirJ (st conv_any)

theorem key_bin {Y : World} {B o : Nat} {x : Vd} (hB : B < Y.heap.size) (hr : Y.rangeAt B o x.cells) : BIn Y (.slice (some ⟨B, o, none⟩) 4 4) x.key :=
  ⟨_, 4, rfl, Nat.le_refl 4, fun _ => ⟨B, o, rfl, hB, fun j hj => by
    match j, hj with
    | 0, _ => exact hr 0 _ rfl
    | 1, _ => exact hr 1 _ rfl
    | 2, _ => exact hr 2 _ rfl
    | 3, _ => exact hr 3 _ rfl
    | n + 4, hj => exact absurd hj (by simp [Vd.key])⟩⟩
theorem key_conv (Y : World) {B o : Nat} {x : Vd} (hB : B < Y.heap.size) (hr : Y.rangeAt B o x.cells) : (convert 32 9 (.slice (some ⟨B, o, none⟩) 4 4)).run Try.prog Y = .ok (.string (st x.key)) Y := conv_any Y _ 4 4 x.key (key_bin hB hr)
theorem u8_lt (a b : Nat) (ha : a < 256) (hb : b < 256) : decide (a.toUInt8 < b.toUInt8) = decide (a < b) := by
  rw [decide_eq_decide]
  exact ValB.u8_lt a b ha hb
theorem u8_eq (a b : Nat) (ha : a < 256) (hb : b < 256) : (a.toUInt8 == b.toUInt8) = decide (a = b) := by
  rw [Bool.eq_iff_iff, beq_iff_eq, decide_eq_true_iff, ← UInt8.toNat_inj]
  simp [Nat.mod_eq_of_lt ha, Nat.mod_eq_of_lt hb]
theorem less_cons (x y : Int) (l m : List Int) (hx : 0 ≤ x ∧ x < 256) (hy : 0 ≤ y ∧ y < 256) : Op.bytesLess (ValB.bts (x :: l)) (ValB.bts (y :: m)) = (decide (x < y) || (decide (x = y) && Op.bytesLess (ValB.bts l) (ValB.bts m))) := by
  show (decide (x.toNat.toUInt8 < y.toNat.toUInt8) || (x.toNat.toUInt8 == y.toNat.toUInt8 && Op.bytesLess (ValB.bts l) (ValB.bts m))) = _
  rw [u8_lt _ _ (by omega) (by omega), u8_eq _ _ (by omega) (by omega)]
  congr 1
  · rw [decide_eq_decide]; omega
  · congr 1
    rw [decide_eq_decide]; omega
theorem st_list (l : List Int) : (st l).toList = ValB.bts l := Lib.strOfNums_toList l
theorem key_less {x y : Vd} (hx : x.ok) (hy : y.ok) : Op.bytesLess (st x.key).toList (st y.key).toList = decide (x.rk < y.rk) := by
  obtain ⟨a, b, c, d, _⟩ := hx
  obtain ⟨a', b', c', d', _⟩ := hy
  rw [st_list, st_list]
  unfold Vd.key
  rw [less_cons _ _ _ _ a a', less_cons _ _ _ _ b b', less_cons _ _ _ _ c c', less_cons _ _ _ _ d d', show Op.bytesLess (ValB.bts []) (ValB.bts []) = false from rfl, Bool.eq_iff_iff]
  simp only [Bool.or_eq_true, Bool.and_eq_true, decide_eq_true_iff, Bool.false_eq_true, and_false, or_false]
  unfold Vd.rk
  omega
theorem key_slice (B o : Nat) (Y : World) : (Instr.sliceAt 36 (.pointer (some ⟨B, o, none⟩)) none none none).run Try.prog Y = .ok (.slice (some ⟨B, o, none⟩) 4 4) Y := by
  kernel_rfl
theorem app_one (w U : World) (v : Value) (pre : List Vd) (y : Vd) (hO : OwnV U v pre) (hN : ValF.NewB w v) (hB : Below w.heap.size w U) (hy : y.ok) (hl : pre.length < 1000000) (g : Nat) (hg : U.heap.size = g) :
    ∃ v' u', (Builtin.append_ #[80, 80] 80 #[v, .slice (some ⟨g, 0, none⟩) 1 1]).run Try.prog (U.alloc (.cells #[.int .u8 y.a, .int .u8 y.b, .int .u8 y.c, .int .u8 y.d, .int .i64 y.p] 100)) = .ok v' u' ∧ OwnV u' v' (pre ++ [y]) ∧ ValF.NewB w v' ∧ Below w.heap.size w u' := by
  subst hg
  have hal : Below U.heap.size U (U.alloc (.cells #[.int .u8 y.a, .int .u8 y.b, .int .u8 y.c, .int .u8 y.d, .int .i64 y.p] 100)) := Below.alloc (Below.refl _ _) (Nat.le_refl _) _
  obtain ⟨v', u', hrun, ho, hf, hn⟩ := app_vals (U.alloc (.cells #[.int .u8 y.a, .int .u8 y.b, .int .u8 y.c, .int .u8 y.d, .int .i64 y.p] 100)) 80 80 v (.slice (some ⟨U.heap.size, 0, none⟩) 1 1) pre [y] (hO.below hal) (src_one Try.underlying80 _ 0 1 _ (fun j v hj => by rw [Nat.zero_add]; exact ((At.new U _ (Vd.cells y)).cell j).trans hj)) (fun z hz => by rw [List.mem_singleton.1 hz]; exact hy) (by simp; omega)
  refine ⟨v', u', hrun, ho, fun q hq => ?_, ?_⟩
  · rcases hn q hq with h3 | h3
    · exact hN q h3
    · have := hB.size
      simp at h3
      omega
  · have hs := hB.size
    exact (hB.trans (hal.mono hs)).trans (hf.below (by simp; omega) (fun q hq hx => by have := hN q hx; omega))
def MidM (w : World) (ls ms : List Vd) (ln mn : Nat) (v i k : Value) (U : World) : Prop :=
  ∃ (p q : Nat) (pre : List Vd), p ≤ ln ∧ q ≤ mn ∧ i = .int .i64 (p : Int) ∧ k = .int .i64 (q : Int) ∧ OwnV U v pre ∧ ValF.NewB w v ∧ Below w.heap.size w U ∧ pre.length ≤ p + q ∧ mk ls ms = pre ++ mk (ls.drop p) (ms.drop q)
theorem ne_vals (x y : Vd) (W : World) : (binOp .neq 100 (.agg #[.int .u8 x.a, .int .u8 x.b, .int .u8 x.c, .int .u8 x.d, .int .i64 x.p]) (.agg #[.int .u8 y.a, .int .u8 y.b, .int .u8 y.c, .int .u8 y.d, .int .i64 y.p])).run Try.prog W = .ok (.bool (!Vd.same x y)) W := by
  have h := eq_vals x y W
  simp only [binOp, Sem.run_bind, Sem.run_pure] at h ⊢
  generalize (Op.equal 100 (.agg #[.int .u8 x.a, .int .u8 x.b, .int .u8 x.c, .int .u8 x.d, .int .i64 x.p]) (.agg #[.int .u8 y.a, .int .u8 y.b, .int .u8 y.c, .int .u8 y.d, .int .i64 y.p])).run Try.prog W = r at *
  cases r <;> simp_all [Result.andThen]
theorem NewB_nil (w : World) : ValF.NewB w (.slice none 0 0) := fun k hk => by simp [Value.ownBlock] at hk
set_option maxRecDepth 10000 in
set_option maxHeartbeats 20000000 in
theorem made_any (w : World) (la ma : Option Addr) (ln lc mn mc : Nat) (ls ms : List Vd) (hL : VIn w la ln lc ls) (hM : VIn w ma mn mc ms) (hl : ln ≤ 1000) (hm : mn ≤ 1000) :
    Calls Try.prog 66 #[.slice la ln lc, .slice ma mn mc] w fun e w' => ∃ va vn vc, e = .returned (.slice va vn vc) ∧ OwnV w' (.slice va vn vc) (mk ls ms) ∧ Below w.heap.size w w' := by
  have HL := WirS.hide hL
  have HM := WirS.hide hM
  have HLN := WirS.hide hL.len
  have HMN := WirS.hide hM.len
  have HHY := WirS.hide (And.intro hl hm)
  have hst : MidM w ls ms ln mn (.slice none 0 0) (.int .i64 0) (.int .i64 0) w := ⟨0, 0, [], by omega, by omega, rfl, rfl, OwnV.nil _, NewB_nil _, Below.refl _ _, by simp, by simp⟩
  have HST := WirS.hide hst
  clear hL hM hst
  go_enter Try.func66, Try.ntmps66
  go_wp2_with fail
  go_loopw [5, 6, 7] (fun v i k wr => MidM w ls ms ln mn v i k wr) (fun _ i k _ => ln + mn - ((intOf i).toNat + (intOf k).toNat))
  case atStart => exact HST.out
  case round =>
    clear HST
    obtain ⟨p, q, pre, hp, hq, rfl, rfl, hO, hN, hB, hlen, hE⟩ := hrel
    have HO := WirS.hide hO
    have HN := WirS.hide hN
    have HB := WirS.hide hB
    have HE := WirS.hide hE
    have HPL := WirS.hide hlen
    clear hO hN hB hE hlen
    by_cases hpl : p < ln
    · obtain ⟨x, B, o, hx, hmem, rfl, hBl, hrr⟩ := (HL.out.below HB.out).cell hpl
      have g0 : (p : Int) < (ln : Int) := by omega
      have g4 : ((p : Int) == (ln : Int)) = false := by simp; omega
      have g5 : decide ((p : Int) = (ln : Int)) = false := by simp; omega
      have g6 : decide ((p : Int) < (ln : Int)) = true := by simp; omega
      have HX := WirS.hide (show ls.drop p = x :: ls.drop (p + 1) by rw [← List.getElem?_eq_some_iff.1 hx |>.2]; exact List.drop_eq_getElem_cons _)
      have HXO := WirS.hide (HL.out.ok x hmem)
      have r0 : wr.cell? ⟨B, o + p * 5, none⟩ = some (.int .u8 x.a) := hrr 0 _ rfl
      have r1 : wr.cell? ⟨B, o + p * 5 + 1, none⟩ = some (.int .u8 x.b) := hrr 1 _ rfl
      have r2 : wr.cell? ⟨B, o + p * 5 + 2, none⟩ = some (.int .u8 x.c) := hrr 2 _ rfl
      have r3 : wr.cell? ⟨B, o + p * 5 + 3, none⟩ = some (.int .u8 x.d) := hrr 3 _ rfl
      have r4 : wr.cell? ⟨B, o + p * 5 + 4, none⟩ = some (.int .i64 x.p) := hrr 4 _ rfl
      by_cases hqm : q < mn
      · obtain ⟨y, C, c, hy, hmem2, rfl, hCl, hrs⟩ := (HM.out.below HB.out).cell hqm
        have g1 : (q : Int) < (mn : Int) := by omega
        have g2 : ((q : Int) == (mn : Int)) = false := by simp; omega
        have g3 : decide ((q : Int) = (mn : Int)) = false := by simp; omega
        have g8 : decide ((q : Int) < (mn : Int)) = true := by simp; omega
        have HY := WirS.hide (show ms.drop q = y :: ms.drop (q + 1) by rw [← List.getElem?_eq_some_iff.1 hy |>.2]; exact List.drop_eq_getElem_cons _)
        have HYO := WirS.hide (HM.out.ok y hmem2)
        have s0 : wr.cell? ⟨C, c + q * 5, none⟩ = some (.int .u8 y.a) := hrs 0 _ rfl
        have s1 : wr.cell? ⟨C, c + q * 5 + 1, none⟩ = some (.int .u8 y.b) := hrs 1 _ rfl
        have s2 : wr.cell? ⟨C, c + q * 5 + 2, none⟩ = some (.int .u8 y.c) := hrs 2 _ rfl
        have s3 : wr.cell? ⟨C, c + q * 5 + 3, none⟩ = some (.int .u8 y.d) := hrs 3 _ rfl
        have s4 : wr.cell? ⟨C, c + q * 5 + 4, none⟩ = some (.int .i64 y.p) := hrs 4 _ rfl
        have kx : ∀ n, (convert 32 9 (.slice (some ⟨B, o + p * 5, none⟩) 4 4)).run Try.prog (wr.drewN n) = .ok (.string (st x.key)) (wr.drewN n) := fun n => key_conv _ (by simpa using hBl) (fun j v hj => by simpa using hrr j v hj)
        have ky : ∀ n, (convert 32 9 (.slice (some ⟨C, c + q * 5, none⟩) 4 4)).run Try.prog (wr.drewN n) = .ok (.string (st y.key)) (wr.drewN n) := fun n => key_conv _ (by simpa using hCl) (fun j v hj => by simpa using hrs j v hj)
        have kl := key_less HXO.out HYO.out
        have kg := key_less HYO.out HXO.out
        have hsx := key_slice B (o + p * 5)
        have hsy := key_slice C (c + q * 5)
        have HXY := WirS.hide HYO.out
        generalize st x.key = sx at *
        generalize st y.key = sy at *
        by_cases hlt : x.rk < y.rk
        · rw [decide_eq_true hlt] at kl
          clear HYO kg
          have HYO := WirS.hide (show (Vd.off x).ok from ⟨HXO.out.1, HXO.out.2, HXO.out.3, HXO.out.4, by simp [Vd.off], by simp [Vd.off]⟩)
          clear hrr hmem hx hrs hmem2 hy
          go_wp2_with fail
          go_quiet (fail)
          have hD : Below wr.heap.size wr (wr.drewN nq) := below_drewN (Below.refl _ _) _
          obtain ⟨v', u', hrun, ho, hn, hb⟩ := app_one w (wr.drewN nq) u5 pre (Vd.off x) (HO.out.below hD) HN.out (HB.out.trans (hD.mono HB.out.size)) HYO.out (by have := HPL.out; have := HHY.out; omega) wr.heap.size (by simp)
          have HOn := WirS.hide ho
          have HNn := WirS.hide hn
          have HBn := WirS.hide hb
          clear ho hn hb hD
          try unfold Vd.off at hrun
          go_wp2_with (at_builtin; refine sA (by kernel_rfl) _ _ _ _ (by rfl) _ _ (by rfl) (by rfl) v' u' hrun ?_)
          go_roundw
          case rel =>
            refine ⟨p + 1, q, pre ++ [Vd.off x], by omega, by omega, by first | rfl | go_num, by first | rfl | go_num, HOn.out, HNn.out, HBn.out, by have := HPL.out; simp; omega, ?_⟩
            rw [HE.out, HX.out, HY.out, mk_lt _ _ hlt]
            simp
          case measure => simp [intOf]; omega
        · by_cases hgt : y.rk < x.rk
          · rw [decide_eq_false hlt] at kl
            rw [decide_eq_true hgt] at kg
            clear hrr hmem hx hrs hmem2 hy
            go_wp2_with fail
            go_quiet (fail)
            generalize nq = n1 at *
            go_wp2_with fail
            go_quiet (fail)
            have hD : Below wr.heap.size wr (wr.drewN (n1 + nq)) := below_drewN (Below.refl _ _) _
            obtain ⟨v', u', hrun, ho, hn, hb⟩ := app_one w (wr.drewN (n1 + nq)) u5 pre (y) (HO.out.below hD) HN.out (HB.out.trans (hD.mono HB.out.size)) HYO.out (by have := HPL.out; have := HHY.out; omega) wr.heap.size (by simp)
            have HOn := WirS.hide ho
            have HNn := WirS.hide hn
            have HBn := WirS.hide hb
            clear ho hn hb hD
            try unfold Vd.off at hrun
            go_wp2_with (at_builtin; refine sA (by kernel_rfl) _ _ _ _ (by rfl) _ _ (by rfl) (by rfl) v' u' hrun ?_)
            go_roundw
            case rel =>
              refine ⟨p, q + 1, pre ++ [y], by omega, by omega, by first | rfl | go_num, by first | rfl | go_num, HOn.out, HNn.out, HBn.out, by have := HPL.out; simp; omega, ?_⟩
              rw [HE.out, HX.out, HY.out, mk_gt _ _ hgt]
              simp
            case measure => simp [intOf]; omega
          · cases hs : Vd.same x y
            · rw [decide_eq_false hlt] at kl
              rw [decide_eq_false hgt] at kg
              have hq9 := fun W => ne_vals x y W
              rw [hs] at hq9
              simp only [Bool.not_false] at hq9
              clear hrr hmem hx hrs hmem2 hy
              go_wp2_with fail
              go_quiet (fail)
              generalize nq = n1 at *
              go_wp2_with fail
              go_quiet (fail)
              generalize nq = n2 at *
              go_wp2_with fail
              go_quiet (fail)
              have hD : Below wr.heap.size wr (wr.drewN (n1 + n2 + nq)) := below_drewN (Below.refl _ _) _
              obtain ⟨v', u', hrun, ho, hn, hb⟩ := app_one w (wr.drewN (n1 + n2 + nq)) u5 pre (y) (HO.out.below hD) HN.out (HB.out.trans (hD.mono HB.out.size)) HYO.out (by have := HPL.out; have := HHY.out; omega) wr.heap.size (by simp)
              have HOn := WirS.hide ho
              have HNn := WirS.hide hn
              have HBn := WirS.hide hb
              clear ho hn hb hD
              try unfold Vd.off at hrun
              go_wp2_with (at_builtin; refine sA (by kernel_rfl) _ _ _ _ (by rfl) _ _ (by rfl) (by rfl) v' u' hrun ?_)
              go_roundw
              case rel =>
                refine ⟨p + 1, q + 1, pre ++ [y], by omega, by omega, by first | rfl | go_num, by first | rfl | go_num, HOn.out, HNn.out, HBn.out, by have := HPL.out; simp; omega, ?_⟩
                rw [HE.out, HX.out, HY.out, mk_eq _ _ (by omega), if_neg (by rw [hs]; simp)]
                simp
              case measure => simp [intOf]; omega
            · rw [decide_eq_false hlt] at kl
              rw [decide_eq_false hgt] at kg
              have hq9 := fun W => ne_vals x y W
              rw [hs] at hq9
              simp only [Bool.not_true] at hq9
              clear hrr hmem hx hrs hmem2 hy
              go_wp2_with fail
              go_quiet (fail)
              generalize nq = n1 at *
              go_wp2_with fail
              go_quiet (fail)
              generalize nq = n2 at *
              go_wp2_with fail
              go_quiet (fail)
              go_wp2_with fail
              go_roundw
              case rel =>
                refine ⟨p + 1, q + 1, pre, by omega, by omega, by first | rfl | go_num, by first | rfl | go_num, HO.out.below (below_drewN (Below.refl _ _) _), HN.out, HB.out.trans ((below_drewN (Below.refl _ _) _).mono HB.out.size), by have := HPL.out; omega, ?_⟩
                rw [HE.out, HX.out, HY.out, mk_eq _ _ (by omega), if_pos hs]
                simp
              case measure => simp [intOf]; omega
      · obtain rfl : q = mn := by omega
        have HQ := WirS.hide (show ms.drop q = [] from List.drop_eq_nil_of_le (by rw [HMN.out]; omega))
        have HYO := WirS.hide (show (Vd.off x).ok from ⟨HXO.out.1, HXO.out.2, HXO.out.3, HXO.out.4, by simp [Vd.off], by simp [Vd.off]⟩)
        clear hrr hmem hx
        go_wp2_with fail
        go_quiet (fail)
        have hD : Below wr.heap.size wr (wr.drewN nq) := below_drewN (Below.refl _ _) _
        obtain ⟨v', u', hrun, ho, hn, hb⟩ := app_one w (wr.drewN nq) u5 pre (Vd.off x) (HO.out.below hD) HN.out (HB.out.trans (hD.mono HB.out.size)) HYO.out (by have := HPL.out; have := HHY.out; omega) wr.heap.size (by simp)
        have HOn := WirS.hide ho
        have HNn := WirS.hide hn
        have HBn := WirS.hide hb
        clear ho hn hb hD
        try unfold Vd.off at hrun
        go_wp2_with (at_builtin; refine sA (by kernel_rfl) _ _ _ _ (by rfl) _ _ (by rfl) (by rfl) v' u' hrun ?_)
        go_roundw
        case rel =>
          refine ⟨p + 1, q, pre ++ [Vd.off x], by omega, by omega, by first | rfl | go_num, by first | rfl | go_num, HOn.out, HNn.out, HBn.out, by have := HPL.out; simp; omega, ?_⟩
          rw [HE.out, HX.out, HQ.out, mk_nil_right, mk_nil_right]
          simp
        case measure => simp [intOf]; omega
    · by_cases hqm : q < mn
      · obtain rfl : p = ln := by omega
        have HP := WirS.hide (show ls.drop p = [] from List.drop_eq_nil_of_le (by rw [HLN.out]; omega))
        obtain ⟨y, C, c, hy, hmem2, rfl, hCl, hrs⟩ := (HM.out.below HB.out).cell hqm
        have g1 : (q : Int) < (mn : Int) := by omega
        have g2 : ((q : Int) == (mn : Int)) = false := by simp; omega
        have g3 : decide ((q : Int) = (mn : Int)) = false := by simp; omega
        have g8 : decide ((q : Int) < (mn : Int)) = true := by simp; omega
        have HY := WirS.hide (show ms.drop q = y :: ms.drop (q + 1) by rw [← List.getElem?_eq_some_iff.1 hy |>.2]; exact List.drop_eq_getElem_cons _)
        have HYO := WirS.hide (HM.out.ok y hmem2)
        have s0 : wr.cell? ⟨C, c + q * 5, none⟩ = some (.int .u8 y.a) := hrs 0 _ rfl
        have s1 : wr.cell? ⟨C, c + q * 5 + 1, none⟩ = some (.int .u8 y.b) := hrs 1 _ rfl
        have s2 : wr.cell? ⟨C, c + q * 5 + 2, none⟩ = some (.int .u8 y.c) := hrs 2 _ rfl
        have s3 : wr.cell? ⟨C, c + q * 5 + 3, none⟩ = some (.int .u8 y.d) := hrs 3 _ rfl
        have s4 : wr.cell? ⟨C, c + q * 5 + 4, none⟩ = some (.int .i64 y.p) := hrs 4 _ rfl
        clear hrs hmem2 hy
        go_wp2_with fail
        go_quiet (fail)
        generalize nq = n1 at *
        go_wp2_with fail
        go_quiet (fail)
        have hD : Below wr.heap.size wr (wr.drewN (n1 + nq)) := below_drewN (Below.refl _ _) _
        obtain ⟨v', u', hrun, ho, hn, hb⟩ := app_one w (wr.drewN (n1 + nq)) u5 pre (y) (HO.out.below hD) HN.out (HB.out.trans (hD.mono HB.out.size)) HYO.out (by have := HPL.out; have := HHY.out; omega) wr.heap.size (by simp)
        have HOn := WirS.hide ho
        have HNn := WirS.hide hn
        have HBn := WirS.hide hb
        clear ho hn hb hD
        try unfold Vd.off at hrun
        go_wp2_with (at_builtin; refine sA (by kernel_rfl) _ _ _ _ (by rfl) _ _ (by rfl) (by rfl) v' u' hrun ?_)
        go_roundw
        case rel =>
          refine ⟨p, q + 1, pre ++ [y], by omega, by omega, by first | rfl | go_num, by first | rfl | go_num, HOn.out, HNn.out, HBn.out, by have := HPL.out; simp; omega, ?_⟩
          rw [HE.out, HP.out, HY.out, mk_nil_left, mk_nil_left]
          simp
        case measure => simp [intOf]; omega
      · obtain rfl : p = ln := by omega
        have HP := WirS.hide (show ls.drop p = [] from List.drop_eq_nil_of_le (by rw [HLN.out]; omega))
        obtain rfl : q = mn := by omega
        have HQ := WirS.hide (show ms.drop q = [] from List.drop_eq_nil_of_le (by rw [HMN.out]; omega))
        obtain ⟨va, vc, rfl⟩ := HO.out.len_of
        go_wp2_with fail
        go_ret
        refine ⟨_, _, _, rfl, ?_, HB.out⟩
        rw [HE.out, HP.out, HQ.out, mk_nil_left, List.append_nil]
        exact HO.out
end ValY
end Go.Proofs.Ytackcnncjeajpaa

namespace Go.Proofs.Ytackcnncjeajpaa
namespace ValMD
open Go.RowKit
open BlkM WirM WirS ValA ValB ValC ValD ValE ValP ValQ ValR ValS ValT ValX ValY

def sa5 (a : Option Addr) (c lo : Nat) : Option Addr := if c = lo then a else a.map (·.add (lo * 5))
theorem cut_hi {w : World} {a : Option Addr} {n c : Nat} {vs : List Vd} (h : VIn w a n c vs) (k : Nat) (hk : k ≤ n) :
    (∀ W : World, (Instr.sliceAt 80 (.slice a n c) none (some (.int .i64 (k : Int))) none).run Try.prog W = .ok (.slice (sa5 a c 0) k (c - 0)) W) ∧ VIn w (sa5 a c 0) k (c - 0) (vs.take k) := by
  have hc := h.cap
  have hs := h.small
  have hl := h.len
  have hu : Try.prog.underlying 80 = some (.slice (Try.prog.elem 80)) := by kernel_rfl
  refine ⟨fun W => ?_, ?_⟩
  · rw [run_sliceAt_slice W 80 _ _ _ _ hu, run_slice_h W 80 a n c hu .i64 (k : Int) (by omega) (by omega)]
    have hz : (sizeOf (Try.prog.elem 80)).run Try.prog W = .ok 5 W := by kernel_rfl
    rw [hz]
    simp [sliced, sa5]
  · have e : sa5 a c 0 = a := by
      unfold sa5
      split
      · rfl
      · cases a <;> simp [Addr.add]
    rw [e]
    refine ⟨by rw [List.length_take]; omega, by omega, by omega, fun hp => ?_, fun x hx => h.ok x (List.mem_of_mem_take hx)⟩
    obtain ⟨B, o, rfl, hB, hr⟩ := h.row (by omega)
    exact ⟨B, o, rfl, hB, fun i x hx => hr i x (by
      rw [List.getElem?_take] at hx
      split at hx
      · exact hx
      · cases hx)⟩
theorem cut_lo {w : World} {a : Option Addr} {n c : Nat} {vs : List Vd} (h : VIn w a n c vs) (k : Nat) (hk : k ≤ n) :
    (∀ W : World, (Instr.sliceAt 80 (.slice a n c) (some (.int .i64 (k : Int))) none none).run Try.prog W = .ok (.slice (sa5 a c k) (n - k) (c - k)) W) ∧ VIn w (sa5 a c k) (n - k) (c - k) (vs.drop k) := by
  have hc := h.cap
  have hs := h.small
  have hl := h.len
  have hu : Try.prog.underlying 80 = some (.slice (Try.prog.elem 80)) := by kernel_rfl
  refine ⟨fun W => ?_, ?_⟩
  · rw [run_sliceAt_slice W 80 _ _ _ _ hu, run_slice_l W 80 a n c hu .i64 (k : Int) (by omega) (by omega)]
    have hz : (sizeOf (Try.prog.elem 80)).run Try.prog W = .ok 5 W := by kernel_rfl
    rw [hz]
    simp [sliced, sa5]
  · refine ⟨by rw [List.length_drop]; omega, by omega, by omega, fun hp => ?_, fun x hx => h.ok x (List.mem_of_mem_drop hx)⟩
    obtain ⟨B, o, rfl, hB, hr⟩ := h.row (by omega)
    refine ⟨B, o + k * 5, ?_, hB, fun i x hx => ?_⟩
    · unfold sa5
      rw [if_neg (by omega), Option.map_some, Addr.add_mid]
    · have := hr (k + i) x (by rwa [List.getElem?_drop] at hx)
      rwa [show o + (k + i) * 5 = o + k * 5 + i * 5 by omega] at this
theorem k_made (U : World) (la ma : Option Addr) (ln lc mn mc : Nat) (ls ms : List Vd) (bn : Nat) (hL : VIn U la ln lc ls) (hM : VIn U ma mn mc ms) (hl : ln ≤ 1000) (hm : mn ≤ 1000) (hb : (mk ls ms).length = bn) :
    Calls Try.prog 66 #[.slice la ln lc, .slice ma mn mc] U fun e w' => ∃ va vc, e = .returned (.slice va bn vc) ∧ VIn w' va bn vc (mk ls ms) ∧ Below U.heap.size U w' := by
  refine (made_any U la ma ln lc mn mc ls ms hL hM hl hm).mono ?_
  rintro e w' ⟨va, vn, vc, rfl, ho, hB⟩
  have hv := ho.vin
  have hl := hv.len
  rw [hb] at hl
  subst hl
  exact ⟨_, _, rfl, hv, hB⟩
theorem k_change (U : World) (a a2 : Option Addr) (n c n2 c2 : Nat) (vs ch rs : List Vd) (er : Int) (rn : Nat) (h : VIn U a n c vs) (h2 : VIn U a2 n2 c2 ch) (hn2 : n2 ≤ 1000000) (he : chgd vs ch = (er, rs)) (hr : rs.length = rn) :
    Calls Try.prog 53 #[.slice a n c, .slice a2 n2 c2] U fun e w' => ∃ va vc, e = .returned (.tuple #[.slice va rn vc, .int .i64 er]) ∧ VIn w' va rn vc rs ∧ Below U.heap.size U w' := by
  refine (change_any U a a2 n c n2 c2 vs ch h h2 hn2).mono ?_
  rintro e w' ⟨va, vn, vc, rfl, ho, _, hb⟩
  rw [he] at ho ⊢
  have hv := ho.vin
  have hl := hv.len
  rw [hr] at hl
  subst hl
  exact ⟨_, _, rfl, hv, hb⟩
set_option maxRecDepth 10000 in
set_option maxHeartbeats 20000000 in
theorem made_a (w : World) (la ma : Option Addr) (ln lc mn mc : Nat) (ls ms : List Vd) (hL : VIn w la ln lc ls) (hM : VIn w ma mn mc ms) (q : Int) (g : 30 < ln) :
    Calls Try.prog 13 #[.slice la ln lc, .slice ma mn mc, .int .i64 q] w fun e w' => e = .returned (.bool true) ∧ Below w.heap.size w w' := by
  have g1 : (30 : Int) < (ln : Int) := by omega
  have HL := WirS.hide hL
  have HM := WirS.hide hM
  clear hL hM
  go_enter Try.func13, Try.ntmps13
  go_wp2_with (first | (go_at_call 11; refine (known_any _).mono ?_; rintro e u1 ⟨rfl, h1⟩; have H1 := WirS.hide h1; clear h1))
  go_ret
  exact ⟨rfl, H1.out⟩
set_option maxRecDepth 10000 in
set_option maxHeartbeats 20000000 in
theorem made_b (w : World) (la ma : Option Addr) (ln lc mn mc : Nat) (ls ms : List Vd) (hL : VIn w la ln lc ls) (hM : VIn w ma mn mc ms) (q : Int) (g0 : ln ≤ 30) (g : 30 < mn) :
    Calls Try.prog 13 #[.slice la ln lc, .slice ma mn mc, .int .i64 q] w fun e w' => e = .returned (.bool true) ∧ Below w.heap.size w w' := by
  have g1 : ¬ (30 : Int) < (ln : Int) := by omega
  have g2 : (30 : Int) < (mn : Int) := by omega
  have HL := WirS.hide hL
  have HM := WirS.hide hM
  clear hL hM
  go_enter Try.func13, Try.ntmps13
  go_wp2_with (first | (go_at_call 11; refine (known_any _).mono ?_; rintro e u1 ⟨rfl, h1⟩; have H1 := WirS.hide h1; clear h1))
  go_ret
  exact ⟨rfl, H1.out⟩
set_option maxRecDepth 10000 in
set_option maxHeartbeats 20000000 in
theorem made_c (w : World) (la ma : Option Addr) (ln lc mn mc : Nat) (ls ms : List Vd) (hL : VIn w la ln lc ls) (hM : VIn w ma mn mc ms) (q : Int) (g0 : ln ≤ 30) (g : mn ≤ 30) (cl : Int) (hcl : chk ls = cl) (h0 : cl ≠ 0) :
    Calls Try.prog 13 #[.slice la ln lc, .slice ma mn mc, .int .i64 q] w fun e w' => e = .returned (.bool true) ∧ Below w.heap.size w w' := by
  have g1 : ¬ (30 : Int) < (ln : Int) := by omega
  have g2 : ¬ (30 : Int) < (mn : Int) := by omega
  have hn0 : (cl == 0) = false := by simpa using h0
  have hn1 : (cl != 0) = true := by simpa using h0
  have HCl := WirS.hide hcl
  have HL := WirS.hide hL
  have HM := WirS.hide hM
  clear hL hM
  go_enter Try.func13, Try.ntmps13
  go_wp2_with (first | (go_at_call 11; refine (known_any _).mono ?_; rintro e u1 ⟨rfl, h1⟩; have H1 := WirS.hide h1; clear h1) | (go_at_call 58; with_reducible refine (k_chk _ la ln lc ls cl (HL.out.below H1.out) HCl.out).mono ?_; rintro e u2 ⟨rfl, hb⟩; have H2 := WirS.hide (H1.out.trans (hb.mono H1.out.size)); clear hb))
  go_ret
  exact ⟨rfl, H2.out⟩
set_option maxRecDepth 10000 in
set_option maxHeartbeats 20000000 in
theorem made_d (w : World) (la ma : Option Addr) (ln lc mn mc : Nat) (ls ms : List Vd) (hL : VIn w la ln lc ls) (hM : VIn w ma mn mc ms) (q : Int) (g0 : ln ≤ 30) (g : mn ≤ 30) (cl : Int) (hcl : chk ls = cl) (h0 : cl = 0) (cm : Int) (hcm : chk ms = cm) (h1 : cm ≠ 0) :
    Calls Try.prog 13 #[.slice la ln lc, .slice ma mn mc, .int .i64 q] w fun e w' => e = .returned (.bool true) ∧ Below w.heap.size w w' := by
  have g1 : ¬ (30 : Int) < (ln : Int) := by omega
  have g2 : ¬ (30 : Int) < (mn : Int) := by omega
  subst h0
  have hn0 : (cm == 0) = false := by simpa using h1
  have hn1 : (cm != 0) = true := by simpa using h1
  have HCl := WirS.hide hcl
  have HCm := WirS.hide hcm
  have HL := WirS.hide hL
  have HM := WirS.hide hM
  clear hL hM
  go_enter Try.func13, Try.ntmps13
  go_wp2_with (first | (go_at_call 11; refine (known_any _).mono ?_; rintro e u1 ⟨rfl, h1⟩; have H1 := WirS.hide h1; clear h1) | (go_at_call 58; with_reducible refine (k_chk _ la ln lc ls 0 (HL.out.below H1.out) HCl.out).mono ?_; rintro e u2 ⟨rfl, hb⟩; have H2 := WirS.hide (H1.out.trans (hb.mono H1.out.size)); clear hb) | (go_at_call 58; with_reducible refine (k_chk _ ma mn mc ms cm (HM.out.below H2.out) HCm.out).mono ?_; rintro e u3 ⟨rfl, hb⟩; have H3 := WirS.hide (H2.out.trans (hb.mono H2.out.size)); clear hb))
  go_ret
  exact ⟨rfl, H3.out⟩
set_option maxRecDepth 10000 in
set_option maxHeartbeats 20000000 in
theorem made_e (w : World) (la ma : Option Addr) (ln lc mn mc : Nat) (ls ms : List Vd) (hL : VIn w la ln lc ls) (hM : VIn w ma mn mc ms) (q : Int) (g0 : ln ≤ 30) (g : mn ≤ 30) (hcl : chk ls = 0) (hcm : chk ms = 0) :
    Calls Try.prog 13 #[.slice la ln lc, .slice ma mn mc, .int .i64 q] w fun e w' => e = .returned (.bool true) ∧ Below w.heap.size w w' := by
  have g1 : ¬ (30 : Int) < (ln : Int) := by omega
  have g2 : ¬ (30 : Int) < (mn : Int) := by omega
  have HL := WirS.hide hL
  have HM := WirS.hide hM
  have HCl := WirS.hide hcl
  have HCm := WirS.hide hcm
  have HHY := WirS.hide (And.intro g0 g)
  have hlen := mk_len ls ms
  have hlen2 := mk_len ms ls
  obtain ⟨bn, hbn⟩ : ∃ m, (mk ls ms).length = m := ⟨_, rfl⟩
  obtain ⟨dn, hdn⟩ : ∃ m, (mk ms ls).length = m := ⟨_, rfl⟩
  have h60 : bn ≤ 60 := by rw [← hbn]; have := hL.len; have := hM.len; omega
  have h61 : dn ≤ 60 := by rw [← hdn]; have := hL.len; have := hM.len; omega
  have HBN := WirS.hide hbn
  have HDN := WirS.hide hdn
  have HA := WirS.hide (made_all hcl hcm)
  have HB := WirS.hide (made_all hcm hcl)
  have HZ := WirS.hide (res_nil hcl)
  have hpk := KitB.pick_range q ((bn : Int) + 1) (by omega)
  obtain ⟨p, hp⟩ : ∃ p : Nat, KitB.pick q ((bn : Int) + 1) = (p : Int) := ⟨(KitB.pick q ((bn : Int) + 1)).toNat, by omega⟩
  have HPk := WirS.hide (fun U => show Calls Try.prog 45 #[.int .i64 q, .int .i64 ((bn : Int) + 1)] U (fun e w' => e = .returned (.int .i64 (p : Int)) ∧ U = w') from by have := KitB.pick_any U q ((bn : Int) + 1) (by omega) (by omega); rwa [hp] at this)
  have hpb : p ≤ bn := by omega
  have hC1 := made_cut hcl hcm p (by have := hL.len; have := hM.len; omega)
  have hC2 := made_cut2 hcl hcm p (by have := hL.len; have := hM.len; omega)
  have HM1 := WirS.hide (fun (U : World) (h : Below w.heap.size w U) => k_made U la ma ln lc mn mc ls ms bn (hL.below h) (hM.below h) (by omega) (by omega) hbn)
  have HM2 := WirS.hide (fun (U : World) (h : Below w.heap.size w U) => k_made U ma la mn mc ln lc ms ls dn (hM.below h) (hL.below h) (by omega) (by omega) hdn)
  generalize mk ls ms = by1 at *
  generalize mk ms ls = by2 at *
  clear hL hM hcl hcm hlen hlen2 hbn hdn hp hpk
  go_enter Try.func13, Try.ntmps13
  go_upto_region 4 with (first | (go_at_call 11; refine (known_any _).mono ?_; rintro e u1 ⟨rfl, h1⟩; have H1 := WirS.hide h1; clear h1) | (go_at_call 58; with_reducible refine (k_chk _ la ln lc ls 0 (HL.out.below H1.out) HCl.out).mono ?_; rintro e u2 ⟨rfl, hb⟩; have H2 := WirS.hide (H1.out.trans (hb.mono H1.out.size)); clear hb) | (go_at_call 58; with_reducible refine (k_chk _ ma mn mc ms 0 (HM.out.below H2.out) HCm.out).mono ?_; rintro e u3 ⟨rfl, hb⟩; have H3 := WirS.hide (H2.out.trans (hb.mono H2.out.size)); clear hb))
  go_upto_region 5 with (go_at_call 66; with_reducible refine (HM1.out _ H3.out).mono ?_; rintro e u4 ⟨va, vc, rfl, hv, hb⟩; have HV4 := WirS.hide hv; have H4 := WirS.hide (H3.out.trans (hb.mono H3.out.size)); clear hb hv)
  go_upto_region 7 with (first
    | (go_at_call 60; with_reducible refine (changes_any _ la va ma ln lc bn vc mn mc ls by1 ms 0 (HL.out.below H4.out) HV4.out (HM.out.below H4.out) (by omega) HA.out).mono ?_; rintro e u5 ⟨rfl, hb⟩; have HV5 := WirS.hide (HV4.out.below hb); have H5 := WirS.hide (H4.out.trans (hb.mono H4.out.size)); clear hb)
    | (go_at_call 66; with_reducible refine (HM2.out _ H5.out).mono ?_; rintro e u6 ⟨wa, wc, rfl, hv, hb⟩; have HW6 := WirS.hide hv; have HV6 := WirS.hide (HV5.out.below hb); have H6 := WirS.hide (H5.out.trans (hb.mono H5.out.size)); clear hb hv)
    | (go_at_call 60; with_reducible refine (changes_any _ ma wa la mn mc dn wc ln lc ms by2 ls 0 (HM.out.below H6.out) HW6.out (HL.out.below H6.out) (by omega) HB.out).mono ?_; rintro e u7 ⟨rfl, hb⟩; have HV7 := WirS.hide (HV6.out.below hb); have H7 := WirS.hide (H6.out.trans (hb.mono H6.out.size)); clear hb)
    | (go_at_call 60; with_reducible refine (changes_any _ la none la ln lc 0 0 ln lc ls [] ls 0 (HL.out.below H7.out) (VIn.nil _ _ _ (by decide)) (HL.out.below H7.out) (by omega) HZ.out).mono ?_; rintro e u8 ⟨rfl, hb⟩; have HV8 := WirS.hide (HV7.out.below hb); have H8 := WirS.hide (H7.out.trans (hb.mono H7.out.size)); clear hb))
  obtain ⟨hs1, hv1⟩ := cut_hi HV8.out p hpb
  obtain ⟨hs2, hv2⟩ := cut_lo HV8.out p hpb
  have HV1 := WirS.hide hv1
  have HV2 := WirS.hide hv2
  generalize sa5 va vc 0 = pa at *
  generalize sa5 va vc p = ra at *
  generalize vc - 0 = pc at *
  generalize vc - p = rc at *
  obtain ⟨rn, hrn⟩ : ∃ m, bn - p = m := ⟨_, rfl⟩
  rw [hrn] at HV2 hs2
  have hrn60 : rn ≤ 60 := by omega
  clear hv1 hv2 HV4 HV5 HV6 HV7 hrn
  rcases hC1 with hC1 | ⟨x1, hC1, hD1⟩
  · have HC1 := WirS.hide hC1
    clear hC1 hC2
    go_wp2_with (first | (go_at_call 45; refine (HPk.out _).mono ?_; rintro e _ ⟨rfl, rfl⟩) | (go_at_call 53; with_reducible refine (k_change _ la pa ln lc p pc ls _ [] 6 0 (HL.out.below H8.out) HV1.out (by omega) HC1.out rfl).mono ?_; rintro e u9 ⟨xa, xc, rfl, hv, hb⟩; have H9 := WirS.hide (H8.out.trans (hb.mono H8.out.size)); clear hb hv))
    go_ret
    exact ⟨rfl, H9.out⟩
  · obtain ⟨xn, hxn⟩ : ∃ m, x1.length = m := ⟨_, rfl⟩
    have HC1 := WirS.hide hC1
    have HD1 := WirS.hide hD1
    have HXN := WirS.hide hxn
    clear hC1 hD1 hxn
    have G1 : ∀ (U : World), Below u8.heap.size u8 U → VIn U pa p pc (by1.take p) ∧ VIn U ra rn rc (by1.drop p) := fun U h => ⟨HV1.out.below h, HV2.out.below h⟩
    have HG1 := WirS.hide G1
    clear G1
    rcases hC2 with hC2 | ⟨y1, hC2, hD2⟩
    · have HC2 := WirS.hide hC2
      clear hC2
      go_wp2_with (first
        | (go_at_call 45; refine (HPk.out _).mono ?_; rintro e _ ⟨rfl, rfl⟩)
        | (go_at_call 53; with_reducible refine (k_change _ la pa ln lc p pc ls _ x1 0 xn (HL.out.below H8.out) HV1.out (by omega) HC1.out HXN.out).mono ?_; rintro e u9 ⟨xa, xc, rfl, hv, hb⟩; have HX9 := WirS.hide hv; have HP9 := WirS.hide (HG1.out _ hb); have H9 := WirS.hide (H8.out.trans (hb.mono H8.out.size)); clear hb hv)
        | (go_at_call 53; with_reducible refine (k_change _ la ra ln lc rn rc ls _ [] 6 0 (HL.out.below H9.out) HP9.out.2 (by omega) HC2.out rfl).mono ?_; rintro e u10 ⟨ya, yc, rfl, hv, hb⟩; have HX10 := WirS.hide (HX9.out.below hb); have HR10 := WirS.hide (HP9.out.2.below hb); have H10 := WirS.hide (H9.out.trans (hb.mono H9.out.size)); clear hb hv)
        | (go_at_call 60; with_reducible refine (changes_any _ xa ra ma xn xc rn rc mn mc x1 _ ms 0 HX10.out HR10.out (HM.out.below H10.out) (by omega) HD1.out).mono ?_; rintro e u11 ⟨rfl, hb⟩; have H11 := WirS.hide (H10.out.trans (hb.mono H10.out.size)); clear hb))
      go_ret
      exact ⟨rfl, H11.out⟩
    · obtain ⟨yn, hyn⟩ : ∃ m, y1.length = m := ⟨_, rfl⟩
      have HC2 := WirS.hide hC2
      have HD2 := WirS.hide hD2
      have HYN := WirS.hide hyn
      clear hC2 hD2 hyn
      go_wp2_with (first
        | (go_at_call 45; refine (HPk.out _).mono ?_; rintro e _ ⟨rfl, rfl⟩)
        | (go_at_call 53; with_reducible refine (k_change _ la pa ln lc p pc ls _ x1 0 xn (HL.out.below H8.out) HV1.out (by omega) HC1.out HXN.out).mono ?_; rintro e u9 ⟨xa, xc, rfl, hv, hb⟩; have HX9 := WirS.hide hv; have HP9 := WirS.hide (HG1.out _ hb); have H9 := WirS.hide (H8.out.trans (hb.mono H8.out.size)); clear hb hv)
        | (go_at_call 53; with_reducible refine (k_change _ la ra ln lc rn rc ls _ y1 0 yn (HL.out.below H9.out) HP9.out.2 (by omega) HC2.out HYN.out).mono ?_; rintro e u10 ⟨ya, yc, rfl, hv, hb⟩; have HY10 := WirS.hide hv; have HX10 := WirS.hide (HX9.out.below hb); have HP10 := WirS.hide (And.intro (HP9.out.1.below hb) (HP9.out.2.below hb)); have H10 := WirS.hide (H9.out.trans (hb.mono H9.out.size)); clear hb hv)
        | (go_at_call 60; with_reducible refine (changes_any _ xa ra ma xn xc rn rc mn mc x1 _ ms 0 HX10.out HP10.out.2 (HM.out.below H10.out) (by omega) HD1.out).mono ?_; rintro e u11 ⟨rfl, hb⟩; have HY11 := WirS.hide (HY10.out.below hb); have HP11 := WirS.hide (HP10.out.1.below hb); have H11 := WirS.hide (H10.out.trans (hb.mono H10.out.size)); clear hb)
        | (go_at_call 60; with_reducible refine (changes_any _ ya pa ma yn yc p pc mn mc y1 _ ms 0 HY11.out HP11.out (HM.out.below H11.out) (by omega) HD2.out).mono ?_; rintro e u12 ⟨rfl, hb⟩; have H12 := WirS.hide (H11.out.trans (hb.mono H11.out.size)); clear hb))
      go_ret
      exact ⟨rfl, H12.out⟩
theorem made_row (w : World) (la : Option Addr) (ln lc : Nat) (ls : List Vd) (ma : Option Addr) (mn mc : Nat) (ms : List Vd) (q : Int) (hL : VIn w la ln lc ls) (hM : VIn w ma mn mc ms) (_ : -9223372036854775808 ≤ q) (_ : q ≤ 9223372036854775807) :
    Calls Try.prog 13 #[.slice la ln lc, .slice ma mn mc, .int .i64 q] w fun e w' => e = .returned (.bool true) ∧ Below w.heap.size w w' := by
  by_cases h1 : 30 < ln
  · exact made_a w la ma ln lc mn mc ls ms hL hM q h1
  by_cases h2 : 30 < mn
  · exact made_b w la ma ln lc mn mc ls ms hL hM q (by omega) h2
  by_cases h3 : chk ls = 0
  · by_cases h4 : chk ms = 0
    · exact made_e w la ma ln lc mn mc ls ms hL hM q (by omega) (by omega) h3 h4
    · exact made_d w la ma ln lc mn mc ls ms hL hM q (by omega) (by omega) _ h3 rfl _ rfl h4
  · exact made_c w la ma ln lc mn mc ls ms hL hM q (by omega) (by omega) _ rfl h3
end ValMD
end Go.Proofs.Ytackcnncjeajpaa

