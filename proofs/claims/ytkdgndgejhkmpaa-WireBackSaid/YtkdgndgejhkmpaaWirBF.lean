/-
  WireBack: its things laid end to end; an element's place.
-/
import Derived.Test.YtkdgndgejhkmpaaWirBD
namespace Go.Proofs.Ytkdgndgejhkmpaa
namespace WirBF
open Go.RowKit PaceA FltC
open BlkM WirM WirS WirA WirB WirC WirD WirE WirF WirG WirH WirI WirJ WirK WirL WirN WirO WirP WirQ WirR WirT WirU WirV WirW WirX WirZ WirNA WirRT WirAA WirAB WirBE WirBB WirBC WirBA WirBD

theorem ixT (B o ln lc k : Nat) (hk : k < ln) (W : World) : (Instr.indexAt 22 (.slice (some ⟨B, o, none⟩) ln lc) (.int .i64 (k : Int))).run Try.prog W = .ok (.pointer (some ⟨B, o + k * 41, none⟩)) W := by
  have hs : (sizeOf (Try.prog.elem 22)).run Try.prog W = .ok 41 W := by kernel_rfl
  simp [Instr.indexAt, run_underlying Try.underlying22, asIntOf, go_sem]
  intro h
  omega
theorem opX (a : Operand → Value) (ob : Oper) (x y : Operand) (B o ln lc k : Nat) (ho : ob.op = Op.indexAddr 22 x y) (hx : a x = .slice (some ⟨B, o, none⟩) ln lc) (hy : a y = .int .i64 (k : Int)) (hk : k < ln) (W : World) :
    (execOp a ob).run Try.prog W = .ok (.value (.pointer (some ⟨B, o + k * 41, none⟩))) W := by
  unfold execOp
  rw [ho]
  simp only [hx, hy]
  simp [ixT B o ln lc k hk W]
/-- A thing's bytes; no bytes of what is nothing. -/
def fm (x : Te) : List Int := if 0 ≤ x.t.kd ∧ x.t.kd ≤ 7 then form x.t x.zs else []
def fms (l : List Te) : List Int := l.flatMap fm
theorem fms_succ {ts : List Te} {k : Nat} {x : Te} (h : ts[k]? = some x) : fms (ts.take (k + 1)) = fms (ts.take k) ++ fm x := by
  rw [List.take_add_one, h]
  simp [fms]
theorem fm_len (x : Te) (h : x.zs.length ≤ 300) (hn : x.t.n ≤ 9223372036854775807) : (fm x).length ≤ 309 := by
  unfold fm
  split
  · unfold form
    have h1 := nb_le x.t.n (by omega)
    have h2 := nb_le (x.zs.length : Int) (by omega)
    split
    · rw [numB_len _ (by omega)]; omega
    split
    · rw [List.length_append, numB_len _ (by omega)]; omega
    split
    · rw [x.t.lh]; omega
    split
    · rw [x.t.lk]; omega
    split
    · rw [wordB_len]; omega
    split
    · rw [wordB_len]; omega
    · simp [boolB]
  · simp
theorem fms_len : ∀ (l : List Te), (∀ x ∈ l, (fm x).length ≤ 309) → (fms l).length ≤ 309 * l.length
  | [], _ => by simp [fms]
  | x :: l, h => by
    have h1 := h x (by simp)
    have h2 := fms_len l (fun y hy => h y (by simp [hy]))
    have e : fms (x :: l) = fm x ++ fms l := by simp [fms]
    rw [e, List.length_append, List.length_cons]
    omega
theorem fms_take_le (ts : List Te) (k : Nat) : (fms (ts.take k)).length ≤ (fms ts).length := by
  have : fms ts = fms (ts.take k) ++ fms (ts.drop k) := by
    unfold fms
    rw [← List.flatMap_append, List.take_append_drop]
  rw [this, List.length_append]
  omega
theorem fms_fits {ts : List Te} {k : Nat} {x : Te} (h : ts[k]? = some x) : Fits (fms ts) (fms (ts.take k)).length (fms (ts.take (k + 1))).length (fm x) := by
  have hsplit : ∀ j, fms ts = fms (ts.take j) ++ fms (ts.drop j) := fun j => by
    unfold fms
    rw [← List.flatMap_append, List.take_append_drop]
  refine ⟨by rw [fms_succ h, List.length_append]; omega, fms_take_le _ _, ?_⟩
  have e1 : (fms ts).take (fms (ts.take k)).length = fms (ts.take k) := by
    rw [hsplit k, List.take_append_of_le_length (Nat.le_refl _), List.take_of_length_le (Nat.le_refl _)]
  have e2 : (fms ts).take (fms (ts.take (k + 1))).length = fms (ts.take (k + 1)) := by
    rw [hsplit (k + 1), List.take_append_of_le_length (Nat.le_refl _), List.take_of_length_le (Nat.le_refl _)]
  rw [e1, e2, fms_succ h]
theorem backE (w0 w : World) (l : List Thg) (p : Value) (t : Td) (hk : ¬ (0 ≤ t.kd ∧ t.kd ≤ 7)) (h : Bag w0 w l) :
    Calls Try.prog 38 #[p, .agg t.cells.toArray] w (fun e w' => e = .returned (.bool true) ∧ Bag w0 w' l) := by
  obtain ⟨W0, e0⟩ : ∃ X, X = PW w t := ⟨_, rfl⟩
  have hA : At W0 w.heap.size 39 t.cells := by rw [e0]; exact PW_at _ _
  have HB := WirS.hide (show Bag w0 W0 l by rw [e0]; exact h.more (PW_below _ _))
  have c0 : W0.cell? ⟨w.heap.size, 0, none⟩ = some (.int .i64 t.kd) := by rw [hA.cell]; rfl
  have E0 := WirS.hide e0
  have h0 : (t.kd == 0) = false := by simp; omega
  have h1 : (t.kd == 1) = false := by simp; omega
  have h2 : (t.kd == 2) = false := by simp; omega
  have h3 : (t.kd == 3) = false := by simp; omega
  have h4 : (t.kd == 4) = false := by simp; omega
  have h5 : (t.kd == 5) = false := by simp; omega
  have h6 : (t.kd == 6) = false := by simp; omega
  have h7 : (t.kd == 7) = false := by simp; omega
  clear hA hk e0 h
  go_enter Try.func38, Try.ntmps38
  go_upto_region 1 with fail
  rw [show w.alloc (.cells t.cells.toArray 39) = W0 from E0.out.symm]
  go_wp2_with fail
  go_ret
  exact ⟨rfl, HB.out⟩
theorem dg_rng (n : Int) : ∀ k, rng (dg n k)
  | 0 => fun x h => by cases h
  | k + 1 => fun x h => by
    rcases List.mem_cons.1 h with rfl | h
    · omega
    · exact dg_rng n k x h
theorem numB_rng (n : Int) (h1 : n < 18446744073709551616) : rng (numB n) := fun x h => by
  rw [numB_dg n h1] at h
  rcases List.mem_cons.1 h with rfl | h
  · have := nb_le n h1
    omega
  · exact dg_rng _ _ x h
theorem wordB_rng (n : Int) : rng (wordB n) := by rw [wordB_dg]; exact dg_rng n 8
theorem fm_rng (x : Te) (hz : rng x.zs) (hh : rng x.t.h) (hk : rng x.t.k) (hl : x.zs.length ≤ 300) (hn : x.t.n ≤ 9223372036854775807) : rng (fm x) := by
  unfold fm
  split
  · unfold form
    split
    · exact numB_rng _ (by omega)
    split
    · intro y hy
      rcases List.mem_append.1 hy with hy | hy
      · exact numB_rng _ (by omega) y hy
      · exact hz y hy
    split
    · exact hh
    split
    · exact hk
    split
    · exact wordB_rng _
    split
    · exact wordB_rng _
    · intro y hy
      unfold boolB at hy
      rw [List.mem_singleton.1 hy]
      split <;> omega
  · exact fun y hy => by cases hy
theorem fms_rng (l : List Te) (h : ∀ x ∈ l, rng (fm x)) : rng (fms l) := fun y hy => by
  obtain ⟨x, hx, hy⟩ := List.mem_flatMap.1 hy
  exact h x hx y hy
theorem back_fm (w0 U : World) (l : List Thg) (R : Nat) (a : Option Addr) (c : Nat) (bs : List Int) (at' p cut : Nat) (x : Te) (hw : Wf w0 x.t x.va x.vn x.vc x.zs) (hs : x.vn ≤ 300) (hn : x.t.kd = 0 → 0 ≤ x.t.n)
    (hf : Fits bs at' p (fm x)) (hc : cut ≤ bs.length) (hp : p ≤ cut) (h : Bag w0 U (rdr R a c (bs.take cut) at' 0 0 :: l)) :
    Calls Try.prog 38 #[.pointer (some ⟨R, 0, none⟩), .agg x.t.cells.toArray] U (WirBD.Good w0 l R a c (bs.take cut) p) := by
  by_cases hk : 0 ≤ x.t.kd ∧ x.t.kd ≤ 7
  · rw [show fm x = form x.t x.zs by unfold fm; rw [if_pos hk]] at hf
    exact back_ok w0 U l R a c bs at' p cut x hw hs hk hn hf hc hp h
  · rw [show fm x = [] by unfold fm; rw [if_neg hk]] at hf
    have := (fits_mid hf).1
    rw [List.length_nil, Nat.add_zero] at this
    subst this
    exact backE w0 U _ _ x.t hk h
/-- Where a reader of cut off bytes stands. -/
def St3 (cut pn : Nat) (p : Nat) (fe fa : Int) : Prop := (fe = 0 ∧ fa = 0 ∧ p = pn ∧ p ≤ cut) ∨ (fe = 6 ∧ fa ≤ (cut : Int))
def Post3 (w0 : World) (l : List Thg) (R : Nat) (a : Option Addr) (c : Nat) (bs : List Int) (cut pn : Nat) (e : Ending) (w' : World) : Prop :=
  ∃ b p fe fa, e = .returned (.bool b) ∧ Bag w0 w' (rdr R a c (bs.take cut) p fe fa :: l) ∧ St3 cut pn p fe fa
theorem back_3 (w0 U : World) (l : List Thg) (R : Nat) (a : Option Addr) (c : Nat) (bs : List Int) (at' p cut q : Nat) (fe fa : Int) (x : Te) (hw : Wf w0 x.t x.va x.vn x.vc x.zs) (hs : x.vn ≤ 300) (hn : x.t.kd = 0 → 0 ≤ x.t.n)
    (hf : Fits bs at' p (fm x)) (hc : cut ≤ bs.length) (hst : St3 cut at' q fe fa) (h : Bag w0 U (rdr R a c (bs.take cut) q fe fa :: l)) :
    Calls Try.prog 38 #[.pointer (some ⟨R, 0, none⟩), .agg x.t.cells.toArray] U (Post3 w0 l R a c bs cut p) := by
  rcases hst with ⟨rfl, rfl, rfl, hle⟩ | ⟨rfl, hfa⟩
  · by_cases hpc : p ≤ cut
    · exact (back_fm w0 U l R a c bs q p cut x hw hs hn hf hc hpc h).mono fun _ _ ⟨h1, h2⟩ => ⟨true, p, 0, 0, h1, h2, .inl ⟨rfl, rfl, rfl, hpc⟩⟩
    · by_cases hk : 0 ≤ x.t.kd ∧ x.t.kd ≤ 7
      · rw [show fm x = form x.t x.zs by unfold fm; rw [if_pos hk]] at hf
        exact (back_cut w0 U l R a c bs q p cut x hw hs hk hn hf hc (by omega) h).mono fun _ _ ⟨b, p', h1, h2⟩ => ⟨b, p', 6, q, h1, h2, .inr ⟨rfl, by omega⟩⟩
      · rw [show fm x = [] by unfold fm; rw [if_neg hk]] at hf
        have := (fits_mid hf).1
        rw [List.length_nil] at this
        omega
  · by_cases hk : 0 ≤ x.t.kd ∧ x.t.kd ≤ 7
    · exact (back_ill w0 U l R a c _ q 6 fa (by decide) x hw hk h).mono fun _ _ ⟨b, p', h1, h2⟩ => ⟨b, p', 6, fa, h1, h2, .inr ⟨rfl, hfa⟩⟩
    · exact (backE w0 U _ _ x.t hk h).mono fun _ _ ⟨h1, h2⟩ => ⟨true, q, 6, fa, h1, h2, .inr ⟨rfl, hfa⟩⟩
end WirBF
end Go.Proofs.Ytkdgndgejhkmpaa
