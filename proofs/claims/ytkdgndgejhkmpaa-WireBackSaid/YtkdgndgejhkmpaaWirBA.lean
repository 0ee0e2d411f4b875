/-
  A list of things that comes in, opened.
-/
import Derived.Test.YtkdgndgejhkmpaaWirRT
namespace Go.Proofs.Ytkdgndgejhkmpaa
namespace WirBA
open Go.RowKit PaceA FltC Go.WideShapes Go.ChangeShapes
open BlkM WirM WirS WirA WirB WirC WirD WirE WirF WirG WirH WirI WirJ WirK WirL WirN WirO WirP WirQ WirR WirT WirU WirV WirW WirX WirZ WirNA WirO1 WirRT

/-- A thing, its bytes, and where they lie. -/
structure Te where
  t : Td
  va : Option Addr
  vn : Nat
  vc : Nat
  zs : List Int
/-- A list of things, as it comes in. -/
structure LIn (w : World) (la : Option Addr) (ln : Nat) (ts : List Te) : Prop where
  len : ts.length = ln
  small : ln ≤ 9223372036854775807
  row : 0 < ln → ∃ B o, la = some ⟨B, o, none⟩ ∧ B < w.heap.size ∧ ∀ (i : Nat) (x : Te), ts[i]? = some x → w.rangeAt B (o + i * 41) x.t.cells
  wf : ∀ x ∈ ts, Wf w x.t x.va x.vn x.vc x.zs ∧ rng x.t.h ∧ rng x.t.k
theorem list_of {α : Type} {P : Nat → α → Prop} : ∀ n, (∀ i, i < n → ∃ x, P i x) → ∃ l : List α, l.length = n ∧ ∀ i x, l[i]? = some x → P i x
  | 0, _ => ⟨[], rfl, fun i x h => by simp at h⟩
  | n + 1, h => by
    obtain ⟨l, hl, hp⟩ := list_of n (fun i hi => h i (by omega))
    obtain ⟨x, hx⟩ := h n (by omega)
    refine ⟨l ++ [x], by simp [hl], fun i y hy => ?_⟩
    rcases Nat.lt_or_ge i n with hi | hi
    · rw [List.getElem?_append_left (by omega)] at hy
      exact hp i y hy
    · rw [List.getElem?_append_right (by omega), hl] at hy
      obtain rfl : i = n := by
        have := (List.getElem?_eq_some_iff.1 hy).1
        simp at this
        omega
      simp at hy
      subst hy
      exact hx
theorem LIn.below {w w' : World} {la : Option Addr} {ln : Nat} {ts : List Te} (h : LIn w la ln ts) (hb : Below w.heap.size w w') : LIn w' la ln ts := by
  refine ⟨h.len, h.small, fun hp => ?_, fun x hx => ⟨(h.wf x hx).1.more hb (Below.refl _ _), (h.wf x hx).2⟩⟩
  obtain ⟨B, o, e, hB, hr⟩ := h.row hp
  exact ⟨B, o, e, Nat.lt_of_lt_of_le hB hb.size, fun i x hx j v hj => (hb.cell (p := ⟨B, _, none⟩) hB).trans (hr i x hx j v hj)⟩
theorem add_two (a : Addr) (n m : Nat) : a.add (n + m) = (a.add n).add m := by
  unfold Addr.add
  by_cases h1 : n = 0
  · subst h1
    simp
  · by_cases h2 : m = 0
    · subst h2
      simp
    · have h3 : ¬ n + m = 0 := by omega
      simp [h1, h2, Nat.add_assoc]
theorem things_in {H : Type} {enc : TypeId × Value → H} {W : World} {fuel : Nat} {cs : List Value} {x : DataW H × List MemPlace} (h : DataW.trod enc Try.prog W 0 (fun _ => true) true fuel 22 cs = some x) :
    ∃ la ln lc ts, cs = [.slice la ln lc] ∧ LIn W la ln ts := by
  rcases DataW.trod_slice Try.underlying22 h with ⟨hcs, _⟩ | ⟨a, len, cap, elems, rest, n, _, hcs, _, _, hl, hm, hlen, hel, _, _⟩
  · exact ⟨none, 0, 0, [], hcs, ⟨rfl, by decide, fun h => absurd h (by decide), fun x h => by cases h⟩⟩
  · have cT : Try.prog.cellsOf 39 = 41 := by kernel_rfl
    rw [cT] at hel
    have each : ∀ i, i < len → ∃ x : Te, (∀ j v, x.t.cells[j]? = some v → W.cell? (a.add (i * 41 + j)) = some v) ∧ Wf W x.t x.va x.vn x.vc x.zs ∧ rng x.t.h ∧ rng x.t.k := by
      intro i hi
      have h1 := hel i hi
      rw [List.getElem?_eq_getElem (show i < elems.length by omega), Option.bind_eq_some_iff] at h1
      obtain ⟨cs', hc, ht⟩ := h1
      obtain ⟨_, hcl, hat⟩ := World.cells?_some hc
      obtain ⟨t, va, vn, vc, zs, rfl, hw⟩ := t_open ht
      refine ⟨⟨t, va, vn, vc, zs⟩, fun j v hj => ?_, hw⟩
      have hj2 : j < 41 := by
        have := (List.getElem?_eq_some_iff.1 hj).1
        rwa [t.len] at this
      rw [add_two a, hat j hj2]
      exact hj
    obtain ⟨ts, hts, hp⟩ := list_of len each
    refine ⟨some a, len, cap, ts, hcs, ⟨hts, by unfold maxLen at hm; omega, fun hpos => ?_, fun x hx => ?_⟩⟩
    · obtain ⟨b, off, spot⟩ := a
      obtain ⟨x0, hx0⟩ : ∃ x0, ts[0]? = some x0 := ⟨_, List.getElem?_eq_getElem (by omega)⟩
      have h0 := (hp 0 x0 hx0).1 0 _ (List.getElem?_eq_getElem (by rw [x0.t.len]; decide))
      have hspot : spot = none := by simpa [Addr.add] using World.cell?_spot h0
      subst hspot
      refine ⟨b, off, rfl, ?_, fun i x hx j v hj => ?_⟩
      · rw [Go.WideShapes.add_plain] at h0
        unfold World.cell? at h0
        rcases Nat.lt_or_ge b W.heap.size with h | h
        · exact h
        · have : W.heap[b]? = none := by simp [h]
          simp [this] at h0
      · have h2 := (hp i x hx).1 j v hj
        rw [Go.WideShapes.add_plain] at h2
        rw [Nat.add_assoc]
        exact h2
    · obtain ⟨i, hi, rfl⟩ := List.getElem_of_mem hx
      exact (hp i _ (List.getElem?_eq_getElem hi)).2
/-- More than are gone through? -/
def isLong (ts : List Te) : Bool := (ts.take 31).any (fun x => decide (300 < x.vn)) || decide (30 < ts.length)
theorem long_no {ts : List Te} (h : isLong ts = false) : ts.length ≤ 30 ∧ ∀ x ∈ ts, x.vn ≤ 300 := by
  simp only [isLong, Bool.or_eq_false_iff, List.any_eq_false, decide_eq_true_eq, decide_eq_false_iff_not] at h
  refine ⟨by omega, fun x hx => ?_⟩
  have := h.1 x (by rw [List.take_of_length_le (by omega)]; exact hx)
  omega
theorem LIn.cell {w : World} {la : Option Addr} {ln : Nat} {ts : List Te} (h : LIn w la ln ts) {i : Nat} (hi : i < ln) : ∃ (x : Te) (B o : Nat), ts[i]? = some x ∧ x ∈ ts ∧ la = some ⟨B, o, none⟩ ∧ B < w.heap.size ∧ w.rangeAt B (o + i * 41) x.t.cells := by
  obtain ⟨B, o, e, hB, hr⟩ := h.row (by omega)
  have hx : ts[i]? = some (ts[i]'(by rw [h.len]; exact hi)) := List.getElem?_eq_getElem _
  exact ⟨_, B, o, hx, List.getElem_mem _, e, hB, hr i _ hx⟩
theorem any_upto {α : Type} (p : α → Bool) (l : List α) (k : Nat) (x : α) (h : l[k]? = some x) : (l.take (k + 1)).any p = ((l.take k).any p || p x) := by
  rw [List.take_add_one, h]
  simp
def MidL (w : World) (ts : List Te) (ln : Nat) (i : Value) (U : World) : Prop := ∃ k : Nat, k ≤ ln ∧ k ≤ 31 ∧ i = .int .i64 (k : Int) ∧ (ts.take k).any (fun x => decide (300 < x.vn)) = false ∧ U = w
set_option maxHeartbeats 1000000 in
theorem long_any (w : World) (la : Option Addr) (ln lc : Nat) (ts : List Te) (h : LIn w la ln ts) :
    Calls Try.prog 9 #[.slice la ln lc] w fun e w' => e = .returned (.bool (isLong ts)) ∧ w' = w := by
  have hs := h.small
  have HL := WirS.hide h
  clear h
  go_enter Try.func9, Try.ntmps9
  go_wp2_with fail
  go_loopw [3] (fun i wr => MidL w ts ln i wr) (fun i _ => 31 - (intOf i).toNat)
  case atStart => exact ⟨0, Nat.zero_le _, by decide, rfl, by simp, rfl⟩
  case round =>
    obtain ⟨k, hk, hk31, rfl, ha, rfl⟩ := hrel
    by_cases hlt : k < ln
    · by_cases h31 : k < 31
      · obtain ⟨x, B, o, hx, hmem, rfl, hB, hr⟩ := HL.out.cell hlt
        have hv := (HL.out.wf x hmem).1.hv
        have c2 : wr.cell? ⟨B, o + k * 41 + 2, none⟩ = some (.slice x.va x.vn x.vc) := hr 2 _ (by rw [← hv]; rfl)
        have hkl : (k : Int) < (ln : Int) := by omega
        have hk3 : (k : Int) < 31 := by omega
        have hu := any_upto (fun x : Te => decide (300 < x.vn)) ts k x hx
        rw [ha, Bool.false_or] at hu
        clear hr hv
        by_cases h3 : 300 < x.vn
        · have h3' : (300 : Int) < (x.vn : Int) := by omega
          have hres : isLong ts = true := by
            simp only [isLong, Bool.or_eq_true]
            refine .inl ?_
            have h5 : (ts.take (k + 1)).any (fun x : Te => decide (300 < x.vn)) = true := by rw [hu]; simpa using h3
            rw [List.any_eq_true] at h5 ⊢
            obtain ⟨y, hy, hp⟩ := h5
            exact ⟨y, (List.take_subset_take_left ts (by omega)) hy, hp⟩
          have HRs := WirS.hide hres
          clear hu h3 ha hres
          go_wp2_with fail
          go_ret
          exact ⟨by rw [HRs.out]; rfl, rfl⟩
        · have h3' : ¬ (300 : Int) < (x.vn : Int) := by omega
          have hu2 : (ts.take (k + 1)).any (fun x : Te => decide (300 < x.vn)) = false := by rw [hu]; simpa using h3
          have HU := WirS.hide hu2
          clear hu h3 ha hu2
          go_wp2_with fail
          go_roundw
          case rel => exact ⟨k + 1, by omega, by omega, by go_num, HU.out, rfl⟩
          case measure => simp [intOf]; omega
      · obtain rfl : k = 31 := by omega
        have hres : isLong ts = true := by
          simp only [isLong, Bool.or_eq_true, decide_eq_true_eq]
          exact .inr (by rw [HL.out.len]; omega)
        have h30 : (30 : Int) < (ln : Int) := by omega
        have h31l : (31 : Int) < (ln : Int) := by omega
        have HRs := WirS.hide hres
        clear ha hres
        go_wp2_with fail
        go_ret
        exact ⟨by rw [HRs.out]; rfl, rfl⟩
    · obtain rfl : k = ln := by omega
      have hres : isLong ts = decide ((30 : Int) < (k : Int)) := by
        have hl := HL.out.len
        simp only [isLong]
        rw [List.take_of_length_le (by omega)] at ha ⊢
        rw [ha, hl]
        simp
        omega
      have HRs := WirS.hide hres
      clear ha hres
      go_wp2_with fail
      go_ret
      exact ⟨by rw [HRs.out]; rfl, rfl⟩
end WirBA
end Go.Proofs.Ytkdgndgejhkmpaa
