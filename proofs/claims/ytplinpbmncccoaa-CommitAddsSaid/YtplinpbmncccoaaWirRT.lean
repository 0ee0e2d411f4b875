/-
  What is read and written again is as it was: pure.
-/
import Derived.Test.YtplinpbmncccoaaWirO1
namespace Go.Proofs.Ytplinpbmncccoaa
namespace WirRT
open Go.RowKit PaceA FltC
open BlkM WirM WirS WirA WirB WirC WirD WirE WirF WirG WirH WirI WirJ WirK WirL WirN WirO WirP WirQ WirR WirT WirU WirV WirW WirX WirZ WirNA

abbrev rng (zs : List Int) : Prop := ∀ x ∈ zs, 0 ≤ x ∧ x < 256
/-- The k last digits. -/
def dg (n : Int) : Nat → List Int
  | 0 => []
  | k + 1 => (n / 2 ^ (8 * k) % 256) :: dg n k
theorem dg_len (n : Int) : ∀ k, (dg n k).length = k
  | 0 => rfl
  | k + 1 => by rw [dg, List.length_cons, dg_len n k]
theorem dg_snoc (n : Int) : ∀ k, dg n (k + 1) = dg (n / 256) k ++ [n % 256]
  | 0 => by simp [dg]
  | k + 1 => by
    rw [dg, dg_snoc n k, dg, List.cons_append]
    congr 2
    rw [show (2 : Int) ^ (8 * (k + 1)) = 256 * 2 ^ (8 * k) by rw [show 8 * (k + 1) = 8 + 8 * k by omega, Int.pow_add]; rfl, Int.ediv_ediv_of_nonneg (by decide)]
theorem dg_vL (zs : List Int) (h : rng zs) : dg (vL zs) zs.length = zs := by
  obtain ⟨k, hk⟩ : ∃ k, k = zs.length := ⟨_, rfl⟩
  induction k generalizing zs with
  | zero => rw [← hk]; exact (List.length_eq_zero_iff.1 hk.symm).symm
  | succ k ih =>
    obtain ⟨ys, x, rfl⟩ : ∃ ys x, zs = ys ++ [x] := ⟨zs.dropLast, zs.getLast (by intro e; subst e; simp at hk), (List.dropLast_concat_getLast _).symm⟩
    have hy : k = ys.length := by simp at hk; omega
    have hx := h x (by simp)
    rw [← hk, dg_snoc, vL_snoc, show (vL ys * 256 + x) / 256 = vL ys by omega, show (vL ys * 256 + x) % 256 = x by omega, hy, ih ys (fun z hz => h z (by simp [hz])) hy]
theorem cp_dg (n : Int) (k : Nat) (hk : k ≤ 8) : ∀ i, i ≤ k → cp n k i = (k : Int) :: (List.replicate (k - i) 0 ++ (dg n i ++ List.replicate (8 - k) 0))
  | 0, _ => by rw [cp, dg, List.nil_append, Nat.sub_zero, List.replicate_append_replicate, show k + (8 - k) = 8 by omega]
  | i + 1, h => by
    obtain ⟨m, hm⟩ : ∃ m, k - i = m + 1 := ⟨k - i - 1, by omega⟩
    rw [cp, cp_dg n k hk i (by omega), hm, show k - (i + 1) = m by omega, List.set_cons_succ, List.replicate_succ', List.append_assoc, List.set_append, if_neg (by simp), List.length_replicate, Nat.sub_self, List.singleton_append, List.set_cons_zero, dg, List.cons_append]
theorem cp_full (n : Int) (k : Nat) (hk : k ≤ 8) : (cp n k k).take (k + 1) = (k : Int) :: dg n k := by
  rw [cp_dg n k hk k (Nat.le_refl _), Nat.sub_self, List.replicate_zero, List.nil_append, List.take_succ_cons, List.take_append_of_le_length (by rw [dg_len]; exact Nat.le_refl _), List.take_of_length_le (by rw [dg_len]; exact Nat.le_refl _)]
theorem wordB_dg (n : Int) : wordB n = dg n 8 := by
  unfold wordB
  rw [cp_dg n 8 (Nat.le_refl _) 8 (Nat.le_refl _)]
  simp
theorem vL_ge : ∀ (zs : List Int) (a : Int), 0 ≤ a → rng zs → a * 256 ^ zs.length ≤ zs.foldl (fun n x => n * 256 + x) a
  | [], a, _, _ => by simp
  | x :: l, a, h0, h => by
    have hx := h x (by simp)
    have ih := vL_ge l (a * 256 + x) (by omega) (fun z hz => h z (by simp [hz]))
    rw [List.foldl_cons, List.length_cons, Int.pow_succ]
    refine Int.le_trans ?_ ih
    rw [show a * (256 ^ l.length * 256) = (a * 256) * 256 ^ l.length by rw [Int.mul_comm (256 ^ l.length), ← Int.mul_assoc]]
    exact Int.mul_le_mul_of_nonneg_right (by omega) (Int.pow_nonneg (by decide))
theorem bl_pos (x : Nat) (h0 : x ≠ 0) (h : x < 2 ^ 64) : 1 ≤ Lib.bitLen x := by rw [Lib.bitLen_half x h0 h]; omega
theorem nb_vL (zs : List Int) (h : rng zs) (h8 : zs.length ≤ 8) (hd : zs ≠ [] → zs.getD 0 0 ≠ 0) : nb (vL zs) = zs.length := by
  match zs, hd with
  | [], _ => decide
  | d :: r, hd =>
    have hd1 : d ≠ 0 := hd (by simp)
    have hd0 := (h d (by simp)).1
    have hge := vL_ge r d hd0 (fun z hz => h z (by simp [hz]))
    have hlt := (vL_lt (d :: r) h).2
    have hnn := (vL_lt (d :: r) h).1
    rw [show vL (d :: r) = r.foldl (fun n x => n * 256 + x) d by simp [vL]] at hlt hnn ⊢
    generalize r.foldl (fun n x => n * 256 + x) d = N at hge hlt hnn ⊢
    obtain ⟨x, rfl⟩ := Int.eq_ofNat_of_zero_le hnn
    have hj : r.length + 1 ≤ 8 := h8
    have h1 : (256 : Int) ^ r.length ≤ (x : Int) := by
      refine Int.le_trans ?_ hge
      have := Int.mul_le_mul_of_nonneg_right (show 1 ≤ d by omega) (show (0 : Int) ≤ 256 ^ r.length from Int.pow_nonneg (by decide))
      rwa [Int.one_mul] at this
    rw [List.length_cons] at hlt ⊢
    generalize r.length = j at h1 hlt hj ⊢
    have h1' : 2 ^ (8 * j) ≤ x := by
      rw [Nat.pow_mul]
      exact Int.ofNat_le.1 (by rw [Int.natCast_pow]; exact h1)
    have hlt' : x < 2 ^ (8 * j) * 256 := by
      rw [Nat.pow_mul]
      have : x < 256 ^ (j + 1) := Int.ofNat_lt.1 (by rw [Int.natCast_pow]; exact hlt)
      rwa [Nat.pow_succ] at this
    have h64 : x < 2 ^ 64 := Nat.lt_of_lt_of_le hlt' (by rw [show 256 = 2 ^ 8 from rfl, ← Nat.pow_add]; exact Nat.pow_le_pow_right (by decide) (by omega))
    have hs := Lib.bitLen_shift (8 * j) x h1' h64
    have hq : x / 2 ^ (8 * j) < 256 := Nat.div_lt_of_lt_mul hlt'
    have hq0 : x / 2 ^ (8 * j) ≠ 0 := by
      have := (Nat.le_div_iff_mul_le (Nat.pow_pos (n := 8 * j) (show 0 < 2 by decide)) (x := 1) (y := x)).2 (by omega)
      omega
    have ha := bl_pos _ hq0 (by omega)
    have hb := Lib.bitLen_le (x / 2 ^ (8 * j)) 8 (by decide) hq
    unfold nb
    rw [Int.toNat_natCast, hs]
    omega
theorem numB_vL (zs : List Int) (h : rng zs) (h8 : zs.length ≤ 8) (hd : zs ≠ [] → zs.getD 0 0 ≠ 0) : numB (vL zs) = (zs.length : Int) :: zs := by
  unfold numB
  rw [nb_vL zs h h8 hd, cp_full _ _ h8, dg_vL zs h]
theorem rng_part {bs : List Int} (h : rng bs) (i k : Nat) : rng ((bs.drop i).take k) := fun x hx => h x (List.mem_of_mem_drop (List.mem_of_mem_take hx))
/-- What is read between two places is written so. -/
def Fits (bs : List Int) (at' p : Nat) (news : List Int) : Prop := at' ≤ p ∧ p ≤ bs.length ∧ bs.take at' ++ news = bs.take p
theorem fits_of {bs : List Int} {at' p : Nat} {news : List Int} (k : Nat) (hp : p = at' + k) (hl : p ≤ bs.length) (hn : news = (bs.drop at').take k) : Fits bs at' p news := by
  subst hp hn
  exact ⟨by omega, hl, by rw [← List.take_add]⟩
theorem fits_trans {bs : List Int} {a b c : Nat} {x y : List Int} (h : Fits bs a b x) (h2 : Fits bs b c y) : Fits bs a c (x ++ y) := ⟨Nat.le_trans h.1 h2.1, h2.2.1, by rw [← List.append_assoc, h.2.2, h2.2.2]⟩
theorem num_fits {bs : List Int} {at' p : Nat} {n : Int} (hr : rng bs) (h : numO bs at' = .inr (n, p)) : 0 ≤ n ∧ n < 9223372036854775808 ∧ Fits bs at' p (numB n) := by
  unfold numO at h
  split at h
  · cases h
  split at h
  · cases h
  split at h
  · cases h
  split at h
  · cases h
  rename_i h1 h2 h3 h4
  simp only [Sum.inr.injEq, Prod.mk.injEq] at h
  obtain ⟨rfl, rfl⟩ := h
  have hd : rng [bs.getD at' 0] := by
    rw [← one_at bs at' (by omega)]
    exact rng_part hr at' 1
  have hd0 := hd (bs.getD at' 0) (List.mem_singleton.2 rfl)
  obtain ⟨k, hk⟩ := Int.eq_ofNat_of_zero_le hd0.1
  rw [hk, Int.toNat_natCast] at h3 h4 ⊢
  rw [hk] at h2
  have hz := rng_part hr (at' + 1) k
  have hl : ((bs.drop (at' + 1)).take k).length = k := by rw [List.length_take, List.length_drop]; omega
  have hnb : ¬ badN ((bs.drop (at' + 1)).take k) := h4
  have h5 : ((bs.drop (at' + 1)).take k) ≠ [] → ((bs.drop (at' + 1)).take k).getD 0 0 ≠ 0 := fun a b => hnb (.inl ⟨a, b⟩)
  have h6 : vL ((bs.drop (at' + 1)).take k) ≤ 9223372036854775807 := Int.not_lt.1 fun h => hnb (.inr h)
  have h7 := (vL_lt _ hz).1
  refine ⟨h7, by omega, fits_of (k + 1) (by omega) (by omega) ?_⟩
  rw [numB_vL _ hz (by rw [hl]; omega) h5, hl, show k + 1 = 1 + k by omega, List.take_add, one_at bs at' (by omega), hk, List.drop_drop]
  rfl
theorem word_fits {bs : List Int} {at' p : Nat} {n : Int} (hr : rng bs) (h : wordO bs at' = .inr (n, p)) : 0 ≤ n ∧ n < 18446744073709551616 ∧ Fits bs at' p (wordB n) := by
  unfold wordO at h
  split at h
  · cases h
  simp only [Sum.inr.injEq, Prod.mk.injEq] at h
  obtain ⟨rfl, rfl⟩ := h
  have hz := rng_part hr at' 8
  have hl : ((bs.drop at').take 8).length = 8 := by rw [List.length_take, List.length_drop]; omega
  have hv := vL_lt _ hz
  rw [hl] at hv
  refine ⟨hv.1, hv.2, fits_of 8 rfl (by omega) ?_⟩
  have := dg_vL _ hz
  rw [hl] at this
  rw [wordB_dg, this]
theorem pace_fits {bs : List Int} {at' p : Nat} {x : Nat} (hr : rng bs) (h : paceO bs at' = .inr (x, p)) : x < 18446744073709551616 ∧ canon x = x ∧ Fits bs at' p (wordB (x : Int)) := by
  unfold paceO at h
  split at h
  · cases h
  split at h
  · rename_i h1 h2
    simp only [Sum.inr.injEq, Prod.mk.injEq] at h
    obtain ⟨rfl, rfl⟩ := h
    have hw := word_fits hr (show wordO bs at' = .inr (vL ((bs.drop at').take 8), at' + 8) by unfold wordO; rw [if_neg h1])
    have e : ((vL ((bs.drop at').take 8)).toNat : Int) = vL ((bs.drop at').take 8) := Int.toNat_of_nonneg hw.1
    exact ⟨by omega, h2, by rw [e]; exact hw.2.2⟩
  · cases h
theorem bool_fits {bs : List Int} {at' p : Nat} {b : Bool} (hr : rng bs) (h : boolO bs at' = .inr (b, p)) : Fits bs at' p (boolB b) := by
  unfold boolO at h
  split at h
  · cases h
  split at h
  · cases h
  simp only [Sum.inr.injEq, Prod.mk.injEq] at h
  obtain ⟨rfl, rfl⟩ := h
  rename_i h1 h2
  have hd : rng [bs.getD at' 0] := by
    rw [← one_at bs at' (by omega)]
    exact rng_part hr at' 1
  have hd0 := hd (bs.getD at' 0) (List.mem_singleton.2 rfl)
  refine fits_of 1 rfl (by omega) ?_
  rw [one_at bs at' (by omega)]
  unfold boolB
  obtain h | h : bs.getD at' 0 = 0 ∨ bs.getD at' 0 = 1 := by omega
  · rw [h]; rfl
  · rw [h]; rfl
theorem row_fits {n : Nat} {bs : List Int} {at' p : Nat} {l : List Int} (h : rowO n bs at' = .inr (l, p)) : l.length = n ∧ Fits bs at' p l := by
  unfold rowO at h
  split at h
  · cases h
  simp only [Sum.inr.injEq, Prod.mk.injEq] at h
  obtain ⟨rfl, rfl⟩ := h
  exact ⟨by rw [List.length_take, List.length_drop]; omega, fits_of n rfl (by omega) rfl⟩
theorem sized_fits {bs : List Int} {at' p : Nat} {most : Int} {l : List Int} (hr : rng bs) (h : sizedO bs at' most = .inr (l, p)) : rng l ∧ l.length ≤ bs.length ∧ Fits bs at' p (numB (l.length : Int) ++ l) := by
  unfold sizedO at h
  split at h
  · cases h
  rename_i x hx
  obtain ⟨n, q⟩ := x
  split at h
  · cases h
  split at h
  · cases h
  rename_i h1 h2
  simp only [Sum.inr.injEq, Prod.mk.injEq] at h h1 h2
  obtain ⟨rfl, rfl⟩ := h
  obtain ⟨h0, h3, h4⟩ := num_fits hr hx
  have hl : ((bs.drop q).take n.toNat).length = n.toNat := by rw [List.length_take, List.length_drop]; omega
  refine ⟨rng_part hr q _, by rw [hl]; omega, fits_trans (b := q) ?_ (fits_of n.toNat rfl (by omega) rfl)⟩
  rw [hl, Int.toNat_of_nonneg h0]
  exact h4
theorem tb_st (zs : List Int) (h : rng zs) : tb (st zs) = zs := by
  unfold tb st strOfNums
  apply List.ext_getElem
  · simp
  · intro i h1 h2
    have := h zs[i] (List.getElem_mem h2)
    simp
    omega
end WirRT
end Go.Proofs.Ytplinpbmncccoaa
