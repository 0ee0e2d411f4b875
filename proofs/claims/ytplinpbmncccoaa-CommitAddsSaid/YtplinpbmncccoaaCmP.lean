/-
  Votes in order: what Check, Of, Add, Join say of them (pure).
-/
import Derived.Test.YtplinpbmncccoaaCmA
namespace Go.Proofs.Ytplinpbmncccoaa
namespace CmP
open CmA

/-- What is wrong first, vote by vote; p: the previous place. -/
def chkV : Int → List Vt → Int
  | _, [] => 0
  | p, v :: l => if ¬(0 ≤ v.at' ∧ v.at' < 64) then 3 else if v.at' ≤ p then 9 else chkV v.at' l
def chk (ht : Int) (vs : List Vt) : Int := if ¬(1 ≤ ht ∧ ht ≤ 1073741824) then 3 else if 64 < vs.length then 4 else chkV (-1) vs
/-- Places from 0 to 63, strictly ascending. -/
structure Up (vs : List Vt) : Prop where
  rng : ∀ v ∈ vs, 0 ≤ v.at' ∧ v.at' < 64
  asc : vs.Pairwise fun x y => x.at' < y.at'
theorem Up.nil : Up [] := ⟨(fun _ h => by cases h), List.Pairwise.nil⟩
theorem Up.tail {v : Vt} {l : List Vt} (h : Up (v :: l)) : Up l := ⟨fun x hx => h.rng x (by simp [hx]), (List.pairwise_cons.1 h.asc).2⟩
theorem chkV_up : ∀ (vs : List Vt) (p : Int), chkV p vs = 0 ↔ Up vs ∧ ∀ v ∈ vs, p < v.at'
  | [], p => by simp [chkV, Up.nil]
  | v :: l, p => by
    rw [chkV]
    constructor
    · intro h
      by_cases h1 : 0 ≤ v.at' ∧ v.at' < 64
      · rw [if_neg (by simpa using h1)] at h
        by_cases h2 : v.at' ≤ p
        · rw [if_pos h2] at h
          exact absurd h (by decide)
        · rw [if_neg h2] at h
          obtain ⟨hu, hp⟩ := (chkV_up l v.at').1 h
          refine ⟨⟨fun x hx => ?_, List.pairwise_cons.2 ⟨hp, hu.asc⟩⟩, fun x hx => ?_⟩
          · rcases List.mem_cons.1 hx with rfl | hx
            · exact h1
            · exact hu.rng x hx
          · rcases List.mem_cons.1 hx with rfl | hx
            · omega
            · have := hp x hx; omega
      · rw [if_pos h1] at h
        exact absurd h (by decide)
    · rintro ⟨hu, hp⟩
      have h1 := hu.rng v (by simp)
      have h2 := hp v (by simp)
      rw [if_neg (by simpa using h1), if_neg (by omega), chkV_up l v.at']
      exact ⟨hu.tail, (List.pairwise_cons.1 hu.asc).1⟩
theorem chk_up (ht : Int) (vs : List Vt) : chk ht vs = 0 ↔ (1 ≤ ht ∧ ht ≤ 1073741824) ∧ vs.length ≤ 64 ∧ Up vs := by
  unfold chk
  constructor
  · intro h
    by_cases h1 : 1 ≤ ht ∧ ht ≤ 1073741824
    · rw [if_neg (by simpa using h1)] at h
      by_cases h2 : 64 < vs.length
      · rw [if_pos h2] at h
        exact absurd h (by decide)
      · rw [if_neg h2] at h
        exact ⟨h1, by omega, ((chkV_up vs (-1)).1 h).1⟩
    · rw [if_pos h1] at h
      exact absurd h (by decide)
  · rintro ⟨h1, h2, h3⟩
    rw [if_neg (by simpa using h1), if_neg (by omega), chkV_up]
    exact ⟨h3, fun v hv => by have := h3.rng v hv; omega⟩
theorem chkV_codes : ∀ (vs : List Vt) (p : Int), chkV p vs = 0 ∨ chkV p vs = 3 ∨ chkV p vs = 9
  | [], p => .inl rfl
  | v :: l, p => by
    rw [chkV]
    split
    · exact .inr (.inl rfl)
    split
    · exact .inr (.inr rfl)
    · exact chkV_codes l v.at'
/-- The first vote for a place. -/
def ofV (k : Int) : List Vt → Option Int
  | [] => none
  | v :: l => if v.at' = k then some v.sg else ofV k l
theorem ofV_none (k : Int) : ∀ vs : List Vt, ofV k vs = none ↔ ∀ v ∈ vs, v.at' ≠ k
  | [] => by simp [ofV]
  | v :: l => by
    rw [ofV]
    by_cases h : v.at' = k
    · rw [if_pos h]
      simp [h]
    · rw [if_neg h, ofV_none k l]
      simp [h]
theorem ofV_some {vs : List Vt} (h : Up vs) (k s : Int) : ofV k vs = some s ↔ (⟨k, s⟩ : Vt) ∈ vs := by
  induction vs with
  | nil => simp [ofV]
  | cons v l ih =>
    rw [ofV]
    have hp := (List.pairwise_cons.1 h.asc).1
    by_cases e : v.at' = k
    · rw [if_pos e]
      constructor
      · intro h2
        cases h2
        subst e
        simp
      · intro h2
        rcases List.mem_cons.1 h2 with h2 | h2
        · rw [← h2]
        · have := hp _ h2
          simp only at this
          omega
    · rw [if_neg e, ih h.tail]
      constructor
      · intro h2; simp [h2]
      · intro h2
        rcases List.mem_cons.1 h2 with h2 | h2
        · exact absurd (by rw [← h2]) e
        · exact h2
/-- How many lie below a place. -/
def cut (k : Int) : List Vt → Nat
  | [] => 0
  | v :: l => if v.at' < k then cut k l + 1 else 0
theorem cut_le (k : Int) : ∀ vs : List Vt, cut k vs ≤ vs.length
  | [] => Nat.le_refl _
  | v :: l => by
    rw [cut]
    have := cut_le k l
    split <;> simp <;> omega
theorem cut_of (k : Int) : ∀ (vs : List Vt) (i : Nat), i ≤ vs.length → (∀ t x, t < i → vs[t]? = some x → x.at' < k) → (∀ x, vs[i]? = some x → k ≤ x.at') → cut k vs = i
  | [], i, hi, _, _ => by simp at hi; simp [cut, hi]
  | v :: l, 0, _, _, h2 => by
    have := h2 v rfl
    rw [cut, if_neg (by omega)]
  | v :: l, i + 1, hi, h1, h2 => by
    have := h1 0 v (by omega) rfl
    rw [cut, if_pos this, cut_of k l i (by simpa using hi) (fun t x ht hx => h1 (t + 1) x (by omega) (by simpa using hx)) (fun x hx => h2 x (by simpa using hx))]
theorem cut_split (k : Int) : ∀ vs : List Vt, (∀ x ∈ vs.take (cut k vs), x.at' < k) ∧ ∀ x, vs[cut k vs]? = some x → k ≤ x.at'
  | [] => by simp [cut]
  | v :: l => by
    rw [cut]
    by_cases h : v.at' < k
    · rw [if_pos h]
      obtain ⟨h1, h2⟩ := cut_split k l
      refine ⟨fun x hx => ?_, fun x hx => h2 x (by simpa using hx)⟩
      rw [List.take_succ_cons] at hx
      rcases List.mem_cons.1 hx with rfl | hx
      · exact h
      · exact h1 x hx
    · rw [if_neg h]
      exact ⟨fun x hx => by simp at hx, fun x hx => by simp at hx; subst hx; omega⟩
theorem cut_above {vs : List Vt} (h : Up vs) (k : Int) : ∀ x ∈ vs.drop (cut k vs), k ≤ x.at' := by
  intro x hx
  obtain ⟨i, hi, rfl⟩ := List.getElem_of_mem hx
  rw [List.length_drop] at hi
  have h0 : vs[cut k vs]? = some (vs[cut k vs]'(by omega)) := List.getElem?_eq_getElem _
  have h1 := (cut_split k vs).2 _ h0
  rw [List.getElem_drop]
  by_cases e : i = 0
  · subst e
    exact h1
  · have := List.pairwise_iff_getElem.1 h.asc (cut k vs) (cut k vs + i) (by omega) (by omega) (by omega)
    omega
/-- A vote for the place is there: just at the cut. -/
theorem at_cut {vs : List Vt} (h : Up vs) (k : Int) : ofV k vs = (if (vs[cut k vs]?.map (·.at')) = some k then vs[cut k vs]?.map (·.sg) else none) := by
  by_cases e : (vs[cut k vs]?.map (·.at')) = some k
  · rw [if_pos e]
    obtain ⟨x, hx, hk⟩ := Option.map_eq_some_iff.1 e
    rw [hx]
    have : (⟨k, x.sg⟩ : Vt) ∈ vs := by
      rw [← hk]
      exact List.mem_of_getElem? hx
    rw [(ofV_some h k x.sg).2 this]
    rfl
  · rw [if_neg e, ofV_none]
    intro v hv hk
    have hv2 : v ∈ vs.take (cut k vs) ++ vs.drop (cut k vs) := by rw [List.take_append_drop]; exact hv
    rcases List.mem_append.1 hv2 with h1 | h1
    · have := (cut_split k vs).1 v h1
      omega
    · obtain ⟨i, hi, hvi⟩ := List.getElem_of_mem h1
      rw [List.length_drop] at hi
      rw [List.getElem_drop] at hvi
      have h0 : vs[cut k vs]? = some (vs[cut k vs]'(by omega)) := List.getElem?_eq_getElem _
      by_cases e0 : i = 0
      · subst e0
        simp only [Nat.add_zero] at hvi
        rw [h0, hvi] at e
        exact e (by simp [hk])
      · have h2 := (cut_split k vs).2 _ h0
        have := List.pairwise_iff_getElem.1 h.asc (cut k vs) (cut k vs + i) (by omega) (by omega) (by omega)
        rw [hvi] at this
        omega
/-- A vote laid where it belongs. -/
def ins (vs : List Vt) (i : Nat) (v : Vt) : List Vt := vs.take i ++ v :: vs.drop i
def insV (vs : List Vt) (v : Vt) : List Vt := ins vs (cut v.at' vs) v
theorem ins_len (vs : List Vt) (i : Nat) (v : Vt) (h : i ≤ vs.length) : (ins vs i v).length = vs.length + 1 := by
  simp only [ins, List.length_append, List.length_take, List.length_cons, List.length_drop]
  omega
theorem insV_len (vs : List Vt) (v : Vt) : (insV vs v).length = vs.length + 1 := ins_len _ _ _ (cut_le _ _)
theorem mem_ins {vs : List Vt} {i : Nat} {v x : Vt} : x ∈ ins vs i v ↔ x = v ∨ x ∈ vs := by
  have : x ∈ vs ↔ x ∈ vs.take i ∨ x ∈ vs.drop i := by
    rw [← List.mem_append, List.take_append_drop]
  unfold ins
  rw [List.mem_append, List.mem_cons, this]
  constructor
  · rintro (h | h | h)
    · exact .inr (.inl h)
    · exact .inl h
    · exact .inr (.inr h)
  · rintro (h | h | h)
    · exact .inr (.inl h)
    · exact .inl h
    · exact .inr (.inr h)
theorem mem_insV {vs : List Vt} {v x : Vt} : x ∈ insV vs v ↔ x = v ∨ x ∈ vs := mem_ins
theorem up_insV {vs : List Vt} {v : Vt} (h : Up vs) (hv : 0 ≤ v.at' ∧ v.at' < 64) (hn : ofV v.at' vs = none) : Up (insV vs v) := by
  have hne := (ofV_none _ _).1 hn
  refine ⟨fun x hx => ?_, ?_⟩
  · rcases mem_insV.1 hx with rfl | hx
    · exact hv
    · exact h.rng x hx
  · unfold insV ins
    have h3 := cut_above h v.at'
    have h4 := (cut_split v.at' vs).1
    have hp : (vs.take (cut v.at' vs) ++ vs.drop (cut v.at' vs)).Pairwise fun x y => x.at' < y.at' := by rw [List.take_append_drop]; exact h.asc
    obtain ⟨p1, p2, p3⟩ := List.pairwise_append.1 hp
    refine List.pairwise_append.2 ⟨p1, List.pairwise_cons.2 ⟨fun y hy => ?_, p2⟩, fun x hx y hy => ?_⟩
    · have := h3 y hy
      have := hne y (List.mem_of_mem_drop hy)
      omega
    · rcases List.mem_cons.1 hy with rfl | hy
      · exact h4 x hx
      · exact p3 x hx y hy
/-- Two lists in order with the same votes are one. -/
theorem up_ext : ∀ {a b : List Vt}, Up a → Up b → (∀ x, x ∈ a ↔ x ∈ b) → a = b
  | [], [], _, _, _ => rfl
  | [], y :: l, _, _, h => by have := (h y).2 (by simp); cases this
  | x :: k, [], _, _, h => by have := (h x).1 (by simp); cases this
  | x :: k, y :: l, ha, hb, h => by
    have pa := (List.pairwise_cons.1 ha.asc).1
    have pb := (List.pairwise_cons.1 hb.asc).1
    have hxy : x = y := by
      rcases List.mem_cons.1 ((h x).1 (by simp)) with e | e
      · exact e
      · rcases List.mem_cons.1 ((h y).2 (by simp)) with e2 | e2
        · exact e2.symm
        · have h1 := pb x e
          have h2 := pa y e2
          omega
    subst hxy
    rw [up_ext ha.tail hb.tail fun z => ?_]
    constructor
    · intro hz
      rcases List.mem_cons.1 ((h z).1 (by simp [hz])) with e | e
      · have := pa z hz
        rw [e] at this
        omega
      · exact e
    · intro hz
      rcases List.mem_cons.1 ((h z).2 (by simp [hz])) with e | e
      · have := pb z hz
        rw [e] at this
        omega
      · exact e
/-- Votes laid into others, one by one, unless one differs. -/
def mg : List Vt → List Vt → Option (List Vt)
  | all, [] => some all
  | all, v :: l => match ofV v.at' all with
    | none => mg (insV all v) l
    | some s => if s = v.sg then mg all l else none
/-- Do two lists have no unlike votes for a place? -/
def agree (a b : List Vt) : Prop := ∀ x ∈ b, ∀ y ∈ a, x.at' = y.at' → x.sg = y.sg
theorem mg_some : ∀ (l all : List Vt), Up all → Up l → agree all l → ∃ r, mg all l = some r ∧ Up r ∧ ∀ x, x ∈ r ↔ x ∈ all ∨ x ∈ l
  | [], all, ha, _, _ => ⟨all, rfl, ha, fun x => by simp⟩
  | v :: l, all, ha, hl, hg => by
    have pl := (List.pairwise_cons.1 hl.asc).1
    rw [mg]
    cases ho : ofV v.at' all with
    | none =>
      obtain ⟨r, h1, h2, h3⟩ := mg_some l (insV all v) (up_insV ha (hl.rng v (by simp)) ho) hl.tail (fun x hx y hy e => by
        rcases mem_insV.1 hy with rfl | hy
        · have := pl x hx; omega
        · exact hg x (by simp [hx]) y hy e)
      refine ⟨r, h1, h2, fun x => ?_⟩
      rw [h3, mem_insV, List.mem_cons]
      constructor
      · rintro ((h | h) | h)
        · exact .inr (.inl h)
        · exact .inl h
        · exact .inr (.inr h)
      · rintro (h | h | h)
        · exact .inl (.inr h)
        · exact .inl (.inl h)
        · exact .inr h
    | some s =>
      have hm := (ofV_some ha v.at' s).1 ho
      have hs : s = v.sg := (hg v (by simp) _ hm rfl).symm
      obtain ⟨r, h1, h2, h3⟩ := mg_some l all ha hl.tail (fun x hx y hy e => hg x (by simp [hx]) y hy e)
      refine ⟨r, by simp only [if_pos hs]; exact h1, h2, fun x => ?_⟩
      rw [h3, List.mem_cons]
      constructor
      · rintro (h | h)
        · exact .inl h
        · exact .inr (.inr h)
      · rintro (h | h | h)
        · exact .inl h
        · rw [hs] at hm
          exact .inl (by rw [h]; exact hm)
        · exact .inr h
theorem mg_none : ∀ (l all : List Vt), Up all → Up l → ¬ agree all l → mg all l = none
  | [], all, _, _, hg => absurd (fun x hx => by cases hx) hg
  | v :: l, all, ha, hl, hg => by
    have pl := (List.pairwise_cons.1 hl.asc).1
    rw [mg]
    cases ho : ofV v.at' all with
    | none =>
      have hne := (ofV_none _ _).1 ho
      refine mg_none l (insV all v) (up_insV ha (hl.rng v (by simp)) ho) hl.tail (fun h => hg fun x hx y hy e => ?_)
      rcases List.mem_cons.1 hx with rfl | hx
      · exact absurd e.symm (hne y hy)
      · exact h x hx y (mem_insV.2 (.inr hy)) e
    | some s =>
      have hm := (ofV_some ha v.at' s).1 ho
      by_cases hs : s = v.sg
      · simp only [if_pos hs]
        refine mg_none l all ha hl.tail (fun h => hg fun x hx y hy e => ?_)
        rcases List.mem_cons.1 hx with rfl | hx
        · have := (ofV_some ha x.at' y.sg).2 (by rw [e]; exact hy)
          rw [ho] at this
          cases this
          exact hs.symm
        · exact h x hx y hy e
      · simp only [if_neg hs]
theorem mg_self (a : List Vt) (h : Up a) : mg [] a = some a := by
  obtain ⟨r, h1, h2, h3⟩ := mg_some a [] Up.nil h (fun x hx y hy => by cases hy)
  rw [h1, up_ext h2 h fun x => by rw [h3]; simp]
end CmP
end Go.Proofs.Ytplinpbmncccoaa
