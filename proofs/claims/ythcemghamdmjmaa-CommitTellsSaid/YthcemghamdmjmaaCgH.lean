/-
  CmW, CmG, in one text.
-/
import Derived.Test.YthcemghamdmjmaaCgA
import Derived.Test.YthcemghamdmjmaaPkG
namespace Go.Proofs.Ythcemghamdmjmaa
namespace CmW
open Go.RowKit Go.WideShapes Go.ChangeShapes Go.ChangeAt
open BlkM WirM WirS CmA
open CmB (ccl)
open WirO1 (row8)

theorem list_of {α : Type} {P : Nat → α → Prop} : ∀ n, (∀ i, i < n → ∃ x, P i x) → ∃ l : List α, l.length = n ∧ ∀ i x, l[i]? = some x → P i x
  | 0, _ => ⟨[], rfl, fun i x h => by simp at h⟩
  | n + 1, h => by
    obtain ⟨l, hl, hp⟩ := list_of n (fun i hi => h i (by omega))
    obtain ⟨x, hx⟩ := h n (by omega)
    refine ⟨l ++ [x], by simp [hl], fun i y hy => ?_⟩
    rcases Nat.lt_or_ge i n with hi | hi
    · rw [List.getElem?_append_left (by omega)] at hy
      exact hp i y hy
    · rw [List.getElem?_append_right (by omega), hl] at hy
      obtain rfl : i = n := by
        have := (List.getElem?_eq_some_iff.1 hy).1
        simp at this
        omega
      simp at hy
      subst hy
      exact hx
theorem add_two (a : Addr) (n m : Nat) : a.add (n + m) = (a.add n).add m := by
  unfold Addr.add
  by_cases h1 : n = 0
  · subst h1
    simp
  · by_cases h2 : m = 0
    · subst h2
      simp
    · have h3 : ¬ n + m = 0 := by omega
      simp [h1, h2, Nat.add_assoc]
section
variable {H : Type} {enc : TypeId × Value → H} {W : World}
theorem vote_open {fuel : Nat} {cs : List Value} {x : DataW H × List MemPlace} (h : DataW.trod enc Try.prog W 0 (fun _ => true) true fuel 119 cs = some x) : ∃ v : Vt, cs = v.cells ∧ v.ok := by
  have cI : Try.prog.cellsOf 3 = 1 := by kernel_rfl
  have cU : Try.prog.cellsOf 37 = 1 := by kernel_rfl
  have cT : Try.prog.cellsOf 119 = 2 := by kernel_rfl
  obtain ⟨xs, n, _, _, hl, hlen, hf⟩ := DataW.trod_struct Try.underlying119 h
  rw [cT] at hl
  have e0 := hf 0 _ rfl
  have e1 := hf 1 _ rfl
  clear hf
  match xs, hlen with
  | [y0, y1], _ =>
  obtain ⟨n0, p0, _, w0⟩ := DataW.trod_int Try.underlying3 e0
  obtain ⟨n1, p1, _, w1⟩ := DataW.trod_int Try.underlying37 e1
  have p0 : (cs.drop 0).take (Try.prog.cellsOf 3) = _ := p0
  have p1 : (cs.drop 1).take (Try.prog.cellsOf 37) = _ := p1
  rw [cI] at p0
  rw [cU] at p1
  have q0 := WirO1.part 0 1 1 p0 rfl
  have q1 := WirO1.part 1 1 2 p1 rfl
  have q2 : cs.drop 2 = [] := List.drop_eq_nil_of_le (by omega)
  rw [q1, q2, List.drop_zero] at q0
  simp [Lit.wf, IntKind.min, IntKind.max, IntKind.signed, IntKind.bits] at w0 w1
  exact ⟨⟨n0, n1⟩, by simpa [Vt.cells] using q0, ⟨⟨by show _ ≤ n0; omega, by show n0 < _; omega⟩, ⟨by show _ ≤ n1; omega, by show n1 < _; omega⟩⟩⟩
theorem votes_in {fuel : Nat} {cs : List Value} {x : DataW H × List MemPlace} (h : DataW.trod enc Try.prog W 0 (fun _ => true) true fuel 92 cs = some x) :
    ∃ la ln lc vs, cs = [.slice la ln lc] ∧ VtIn W la ln lc vs := by
  rcases DataW.trod_slice Try.underlying92 h with ⟨hcs, _⟩ | ⟨a, len, cap, elems, rest, n, _, hcs, _, _, hl, hm, hlen, hel, _, _⟩
  · exact ⟨none, 0, 0, [], hcs, VtIn.nil W none 0 (by decide)⟩
  · have cT : Try.prog.cellsOf 119 = 2 := by kernel_rfl
    rw [cT] at hel
    have each : ∀ i, i < len → ∃ x : Vt, (∀ j v, x.cells[j]? = some v → W.cell? (a.add (i * 2 + j)) = some v) ∧ x.ok := by
      intro i hi
      have h1 := hel i hi
      rw [List.getElem?_eq_getElem (show i < elems.length by omega), Option.bind_eq_some_iff] at h1
      obtain ⟨cs', hc, ht⟩ := h1
      obtain ⟨_, hcl, hat⟩ := World.cells?_some hc
      obtain ⟨v, rfl, hok⟩ := vote_open ht
      refine ⟨v, fun j u hj => ?_, hok⟩
      have hj2 : j < 2 := (List.getElem?_eq_some_iff.1 hj).1
      rw [add_two a, hat j hj2]
      exact hj
    obtain ⟨vs, hvs, hp⟩ := list_of len each
    refine ⟨some a, len, cap, vs, hcs, ⟨hvs, hl, by unfold maxLen at hm; omega, fun hpos => ?_, fun x hx => ?_⟩⟩
    · obtain ⟨b, off, spot⟩ := a
      obtain ⟨x0, hx0⟩ : ∃ x0, vs[0]? = some x0 := ⟨_, List.getElem?_eq_getElem (by omega)⟩
      have h0 := (hp 0 x0 hx0).1 0 _ rfl
      have hspot : spot = none := by simpa [Addr.add] using World.cell?_spot h0
      subst hspot
      refine ⟨b, off, rfl, ?_, fun i x hx j v hj => ?_⟩
      · rw [Go.WideShapes.add_plain] at h0
        unfold World.cell? at h0
        rcases Nat.lt_or_ge b W.heap.size with h | h
        · exact h
        · have : W.heap[b]? = none := by simp [h]
          simp [this] at h0
      · have h2 := (hp i x hx).1 j v hj
        rw [Go.WideShapes.add_plain] at h2
        rw [Nat.add_assoc]
        exact h2
    · obtain ⟨i, hi, rfl⟩ := List.getElem_of_mem hx
      exact (hp i _ (List.getElem?_eq_getElem hi)).2
theorem c_cells {fuel : Nat} {cs : List Value} {x : DataW H × List MemPlace} (h : DataW.trod enc Try.prog W 0 (fun _ => true) true fuel 94 cs = some x) :
    ∃ (ht : Int) (k : List Int) (a : Option Addr) (n c : Nat) (vs : List Vt), cs = ccl ht k (.slice a n c) ∧ k.length = 32 ∧ VtIn W a n c vs ∧ (∀ z ∈ k, 0 ≤ z ∧ z < 256) ∧ -9223372036854775808 ≤ ht ∧ ht < 9223372036854775808 := by
  have cI : Try.prog.cellsOf 3 = 1 := by kernel_rfl
  have cH : Try.prog.cellsOf 34 = 32 := by kernel_rfl
  have cV : Try.prog.cellsOf 92 = 1 := by kernel_rfl
  have cT : Try.prog.cellsOf 94 = 34 := by kernel_rfl
  obtain ⟨xs, n, _, _, hl, hlen, hf⟩ := DataW.trod_struct Try.underlying94 h
  rw [cT] at hl
  have e0 := hf 0 _ rfl
  have e1 := hf 1 _ rfl
  have e2 := hf 2 _ rfl
  clear hf
  match xs, hlen with
  | [y0, y1, y2], _ =>
  obtain ⟨n0, p0, _, w0⟩ := DataW.trod_int Try.underlying3 e0
  obtain ⟨l1, p1, h1, r1⟩ := row8 (k := 32) Try.underlying34 cH e1
  obtain ⟨a, m, c, vs, p2, hv⟩ := votes_in e2
  have p0 : (cs.drop 0).take (Try.prog.cellsOf 3) = _ := p0
  have p1 : (cs.drop 1).take (Try.prog.cellsOf 34) = _ := p1
  have p2 : (cs.drop 33).take (Try.prog.cellsOf 92) = _ := p2
  rw [cI] at p0
  rw [cH] at p1
  rw [cV] at p2
  have q0 := WirO1.part 0 1 1 p0 rfl
  have q1 := WirO1.part 1 32 33 p1 rfl
  have q2 := WirO1.part 33 1 34 p2 rfl
  have q3 : cs.drop 34 = [] := List.drop_eq_nil_of_le (by omega)
  rw [q1, q2, q3, List.drop_zero] at q0
  simp [Lit.wf, IntKind.min, IntKind.max, IntKind.signed, IntKind.bits] at w0
  refine ⟨n0, l1, a, m, c, vs, ?_, h1, hv, r1, by omega, by omega⟩
  rw [q0]
  simp [ccl, b8]
set_option maxRecDepth 100000 in
theorem v_open {base : Nat} {v : Value} {d : DataW H} {p : List MemPlace} (hv : Value.okWide Try.prog W .any base 94 v) (h : DataW.Trod enc Try.prog W 0 (fun _ => true) true 94 v d p) :
    ∃ (ht : Int) (k : List Int) (a : Option Addr) (n c : Nat) (vs : List Vt), v = .agg (ccl ht k (.slice a n c)).toArray ∧ k.length = 32 ∧ VtIn W a n c vs ∧ (∀ z ∈ k, 0 ≤ z ∧ z < 256) ∧ -9223372036854775808 ≤ ht ∧ ht < 9223372036854775808 := by
  obtain ⟨cs, rfl, _⟩ := okWide_struct Try.underlying94 hv
  obtain ⟨fuel, hf⟩ := h
  obtain ⟨ht, k, a, n, c, vs, e, hw⟩ := c_cells hf
  have e' : cs.toList = ccl ht k (.slice a n c) := e
  refine ⟨ht, k, a, n, c, vs, ?_, hw⟩
  rw [← e']
end
end CmW
end Go.Proofs.Ythcemghamdmjmaa

namespace Go.Proofs.Ythcemghamdmjmaa
namespace CmG
open CmA CmP

/-- vs: all votes; left: those that are not added yet; al: those that are; x and y: two parts of these. -/
structure Gr (vs left al x y : List Vt) : Prop where
  ua : Up al
  ux : Up x
  uy : Up y
  cov : ∀ v, v ∈ vs ↔ v ∈ left ∨ v ∈ al
  dis : ∀ v ∈ left, ∀ u ∈ al, v.at' ≠ u.at'
  nd : left.Pairwise fun v u => v.at' ≠ u.at'
  par : ∀ v, v ∈ al ↔ v ∈ x ∨ v ∈ y
  len : left.length + al.length = vs.length
  len2 : x.length + y.length = al.length
theorem uniq {l : List Vt} (h : Up l) : ∀ v ∈ l, ∀ u ∈ l, v.at' = u.at' → v = u := by
  intro v hv u hu e
  have h1 := (ofV_some h v.at' v.sg).2 hv
  have h2 := (ofV_some h u.at' u.sg).2 hu
  rw [e] at h1
  exact Vt.eq_of e (Option.some.inj (h1.symm.trans h2))
theorem Gr.start {vs : List Vt} (h : Up vs) : Gr vs vs [] [] [] :=
  ⟨Up.nil, Up.nil, Up.nil, (fun v => by simp), (fun v _ u hu => by cases hu), h.asc.imp (fun h => by omega), (fun v => by simp), by simp, by simp⟩
def without (l : List Vt) (i : Nat) : List Vt := l.take i ++ l.drop (i + 1)
theorem split_at {l : List Vt} {i : Nat} {v : Vt} (h : l[i]? = some v) : l = l.take i ++ v :: l.drop (i + 1) := by
  obtain ⟨hi, rfl⟩ := List.getElem?_eq_some_iff.1 h
  rw [← List.drop_eq_getElem_cons hi, List.take_append_drop]
theorem mem_without {l : List Vt} {i : Nat} {v u : Vt} (h : l[i]? = some v) : u ∈ l ↔ u = v ∨ u ∈ without l i := by
  have e := split_at h
  unfold without
  constructor
  · intro hu
    rw [e] at hu
    simp only [List.mem_append, List.mem_cons] at hu ⊢
    rcases hu with h | h | h
    · exact .inr (.inl h)
    · exact .inl h
    · exact .inr (.inr h)
  · intro hu
    rw [e]
    simp only [List.mem_append, List.mem_cons] at hu ⊢
    rcases hu with h | h | h
    · exact .inr (.inl h)
    · exact .inl h
    · exact .inr (.inr h)
theorem without_len {l : List Vt} {i : Nat} (h : i < l.length) : (without l i).length + 1 = l.length := by
  unfold without
  simp only [List.length_append, List.length_take, List.length_drop]
  omega
theorem Gr.step {vs left al x y : List Vt} (h : Gr vs left al x y) (hvs : Up vs) {i : Nat} {v : Vt} (hi : left[i]? = some v) :
    (0 ≤ v.at' ∧ v.at' < 64) ∧ ofV v.at' al = none ∧ ofV v.at' x = none ∧ ofV v.at' y = none ∧ ofV v.at' (insV al v) = some v.sg ∧
    Gr vs (without left i) (insV al v) (insV x v) y ∧ Gr vs (without left i) (insV al v) x (insV y v) := by
  have hm : v ∈ left := List.mem_of_getElem? hi
  have hr := hvs.rng v ((h.cov v).2 (.inl hm))
  have hn : ofV v.at' al = none := (ofV_none _ _).2 fun u hu e => h.dis v hm u hu e.symm
  have hx : ofV v.at' x = none := (ofV_none _ _).2 fun u hu e => h.dis v hm u ((h.par u).2 (.inl hu)) e.symm
  have hy : ofV v.at' y = none := (ofV_none _ _).2 fun u hu e => h.dis v hm u ((h.par u).2 (.inr hu)) e.symm
  have hal := up_insV h.ua hr hn
  have hlt := (List.getElem?_eq_some_iff.1 hi).1
  have hwl := without_len hlt
  have hpd : ∀ u ∈ without left i, u.at' ≠ v.at' := by
    intro u hu e
    have hp := h.nd
    rw [split_at hi] at hp
    unfold without at hu
    rw [List.pairwise_append] at hp
    obtain ⟨_, p2, p3⟩ := hp
    rcases List.mem_append.1 hu with hu | hu
    · exact p3 u hu v (by simp) e
    · exact (List.pairwise_cons.1 p2).1 u hu e.symm
  have cov : ∀ u, u ∈ vs ↔ u ∈ without left i ∨ u ∈ insV al v := fun u => by
    rw [h.cov u, mem_without hi, mem_insV]
    constructor
    · rintro ((rfl | h) | h)
      · exact .inr (.inl rfl)
      · exact .inl h
      · exact .inr (.inr h)
    · rintro (h | rfl | h)
      · exact .inl (.inr h)
      · exact .inl (.inl rfl)
      · exact .inr h
  have dis : ∀ u ∈ without left i, ∀ t ∈ insV al v, u.at' ≠ t.at' := fun u hu t ht => by
    rcases mem_insV.1 ht with rfl | ht
    · exact hpd u hu
    · exact h.dis u ((mem_without hi).2 (.inr hu)) t ht
  have nd : (without left i).Pairwise fun v u => v.at' ≠ u.at' := by
    have hp := h.nd
    rw [split_at hi] at hp
    exact hp.sublist (List.Sublist.append (List.Sublist.refl _) (List.sublist_cons_self _ _))
  refine ⟨hr, hn, hx, hy, (ofV_some hal _ _).2 (mem_insV.2 (.inl (Vt.eq_of rfl rfl))), ⟨hal, up_insV h.ux hr hx, h.uy, cov, dis, nd, fun u => ?_, ?_, ?_⟩, ⟨hal, h.ux, up_insV h.uy hr hy, cov, dis, nd, fun u => ?_, ?_, ?_⟩⟩
  · rw [mem_insV, mem_insV, h.par u]
    constructor
    · rintro (h | h | h)
      · exact .inl (.inl h)
      · exact .inl (.inr h)
      · exact .inr h
    · rintro ((h | h) | h)
      · exact .inl h
      · exact .inr (.inl h)
      · exact .inr (.inr h)
  · have := h.len
    rw [insV_len]
    omega
  · have := h.len2
    rw [insV_len, insV_len]
    omega
  · rw [mem_insV, mem_insV, h.par u]
    constructor
    · rintro (h | h | h)
      · exact .inr (.inl h)
      · exact .inl h
      · exact .inr (.inr h)
    · rintro (h | h | h)
      · exact .inr (.inl h)
      · exact .inl h
      · exact .inr (.inr h)
  · have := h.len
    rw [insV_len]
    omega
  · have := h.len2
    rw [insV_len, insV_len]
    omega
theorem mg_in {vs a b : List Vt} (hvs : Up vs) (ha : Up a) (hb : Up b) (h : ∀ v, v ∈ vs ↔ v ∈ a ∨ v ∈ b) : mg a b = some vs := by
  obtain ⟨r, h1, h2, h3⟩ := mg_some b a ha hb (fun x hx y hy e => by
    have := uniq hvs x ((h x).2 (.inr hx)) y ((h y).2 (.inl hy)) e
    rw [this])
  rw [h1, up_ext h2 hvs (fun v => by rw [h3 v, h v])]
theorem Gr.done {vs al x y : List Vt} (h : Gr vs [] al x y) (hvs : Up vs) : al = vs ∧ mg x y = some vs ∧ mg y x = some vs ∧ mg vs x = some vs ∧ mg x x = some x := by
  have e : al = vs := up_ext h.ua hvs (fun v => by rw [h.cov v]; simp)
  subst e
  exact ⟨rfl, mg_in hvs h.ux h.uy h.par, mg_in hvs h.uy h.ux (fun v => by rw [h.par v]; exact Or.comm), mg_in hvs hvs h.ux (fun v => ⟨fun h => .inl h, fun h' => h'.elim id (fun h'' => (h.par v).2 (.inl h''))⟩), mg_in h.ux h.ux h.ux (fun v => by simp)⟩
theorem Gr.chks {vs left al x y : List Vt} {ht : Int} (h : Gr vs left al x y) (hc : chk ht vs = 0) : chk ht al = 0 ∧ chk ht x = 0 ∧ chk ht y = 0 ∧ al.length ≤ 64 ∧ x.length ≤ 64 ∧ y.length ≤ 64 := by
  obtain ⟨h1, h2, _⟩ := (chk_up ht vs).1 hc
  have a := h.len
  have b := h.len2
  exact ⟨(chk_up ht al).2 ⟨h1, by omega, h.ua⟩, (chk_up ht x).2 ⟨h1, by omega, h.ux⟩, (chk_up ht y).2 ⟨h1, by omega, h.uy⟩, by omega, by omega, by omega⟩
end CmG
end Go.Proofs.Ythcemghamdmjmaa

