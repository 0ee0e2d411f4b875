/-
  CmF, CmH, CmM, in one text.
-/
import Derived.Test.YthcemghamdmjmaaCgA
import Derived.Test.YthcemghamdmjmaaPkK
import Derived.Test.YthcemghamdmjmaaPkM
import Derived.Test.YthcemghamdmjmaaPkX
import Derived.Test.YthcemghamdmjmaaCgD
import Derived.Test.YthcemghamdmjmaaCgB
import Derived.Deep.MidRow
import Derived.Deep.RegionHeld3
import Derived.Laws.OwnMore
namespace Go.Proofs.Ythcemghamdmjmaa
namespace CmF
open Go.RowKit
open BlkM WirM WirS CmA CmP
open WirD (numB)
open WirF (wordB)
open WirJ (numO wordO)
open WirO (rowO)
open WirN (zz)
open WirG (vL vL_lt)
open WirRT (rng Fits fits_trans num_fits row_fits word_fits rng_part)
open WirBC (num_oc row_oc word_oc)
open WirAA (num_code row_code word_code)
open ValK ValSK
open ValSG (restS)

/-- A vote's bytes; of many; a commit's. -/
def citem (v : Vt) : List Int := numB v.at' ++ wordB v.sg
def citems (vs : List Vt) : List Int := vs.flatMap citem
def chead (ht : Int) (h : List Int) (n : Nat) : List Int := (numB ht ++ h) ++ numB (n : Int)
def cform (ht : Int) (h : List Int) (vs : List Vt) : List Int := chead ht h vs.length ++ citems vs
theorem citems_app (a b : List Vt) : citems (a ++ b) = citems a ++ citems b := by simp [citems]
theorem citems_succ {vs : List Vt} {k : Nat} {x : Vt} (h : vs[k]? = some x) : citems (vs.take (k + 1)) = citems (vs.take k) ++ (numB x.at' ++ wordB x.sg) := by
  rw [List.take_add_one, h, citems_app]
  simp [citems, citem]
theorem wordB_len (n : Int) : (wordB n).length = 8 := by rw [WirRT.wordB_dg, WirRT.dg_len]
theorem citems_len : ∀ vs : List Vt, (∀ x ∈ vs, x.ok) → (citems vs).length ≤ 17 * vs.length
  | [], _ => by simp [citems]
  | x :: l, h => by
    have h1 := ValJ.numB_le x.at' (by have := (h x (by simp)).a; omega)
    have h2 := citems_len l (fun y hy => h y (by simp [hy]))
    have e : citems (x :: l) = (numB x.at' ++ wordB x.sg) ++ citems l := by simp [citems, citem]
    rw [e]
    simp only [List.length_append, List.length_cons, wordB_len]
    omega
theorem chead_len (ht : Int) (h : List Int) (n : Nat) (hl : h.length = 32) (h1 : ht < 18446744073709551616) (h2 : (n : Int) < 18446744073709551616) : (chead ht h n).length ≤ 50 := by
  have a := ValJ.numB_le ht h1
  have b := ValJ.numB_le (n : Int) h2
  unfold chead
  simp only [List.length_append, hl]
  omega

/-! ### What is read -/
abbrev rH (bs : List Int) (s : St) : List Int × St := rO (zz 32) (rowO 32 bs) s
abbrev rW (bs : List Int) (s : St) : Int × St := rO 0 (wordO bs) s
theorem rN_rO (bs : List Int) (s : St) : rN bs s = rO 0 (numO bs) s := by
  cases s with
  | inl f => rfl
  | inr p =>
    cases h : numO bs p with
    | inl c => rw [rO_l h]; simp only [rN, h]
    | inr x => rw [rO_r h]; simp only [rN, h]
theorem rH_len (bs : List Int) (s : St) : (rH bs s).1.length = 32 := by
  cases s with
  | inl f => simp [rO, zz]
  | inr p =>
    cases ho : rowO 32 bs p with
    | inl cd => rw [show rH bs (.inr p) = _ from rO_l ho]; simp [zz]
    | inr x => rw [show rH bs (.inr p) = _ from rO_r ho]; exact (row_fits ho).1
theorem rW_ok {bs : List Int} (hr : rng bs) (s : St) : 0 ≤ (rW bs s).1 ∧ (rW bs s).1 < 18446744073709551616 := by
  cases s with
  | inl f => exact ⟨by show (0 : Int) ≤ 0; omega, by show (0 : Int) < _; omega⟩
  | inr p =>
    cases ho : wordO bs p with
    | inl cd => rw [show rW bs (.inr p) = _ from rO_l ho]; exact ⟨by show (0 : Int) ≤ 0; omega, by show (0 : Int) < _; omega⟩
    | inr x =>
      rw [show rW bs (.inr p) = _ from rO_r ho]
      have := word_fits hr ho
      exact ⟨this.1, this.2.1⟩
def q1 (bs : List Int) : St := (rN bs (.inr 0)).2
def q2 (bs : List Int) : St := (rH bs (q1 bs)).2
def q3 (bs : List Int) : St := (rN bs (q2 bs)).2
def cht (bs : List Int) : Int := (rN bs (.inr 0)).1
def chh (bs : List Int) : List Int := (rH bs (q1 bs)).1
def cnum (bs : List Int) : Int := (rN bs (q2 bs)).1
/-- So many votes are read. -/
def itC (bs : List Int) (s : St) : Nat → List Vt × St
  | 0 => ([], s)
  | k + 1 => ((itC bs s k).1 ++ [⟨(rN bs (itC bs s k).2).1, (rW bs (rN bs (itC bs s k).2).2).1⟩], (rW bs (rN bs (itC bs s k).2).2).2)
theorem itC_len (bs : List Int) (s : St) : ∀ k, (itC bs s k).1.length = k
  | 0 => rfl
  | k + 1 => by simp [itC, itC_len bs s k]
theorem itC_ok {bs : List Int} (hr : rng bs) (s : St) : ∀ k, ∀ x ∈ (itC bs s k).1, x.ok
  | 0 => fun x hx => by cases hx
  | k + 1 => fun x hx => by
    rcases List.mem_append.1 hx with hx | hx
    · exact itC_ok hr s k x hx
    · rw [List.mem_singleton.1 hx]
      have h1 := rN_ok hr (itC bs s k).2
      have h2 := rW_ok hr (rN bs (itC bs s k).2).2
      exact ⟨⟨by show _ ≤ (rN bs (itC bs s k).2).1; omega, by show (rN bs (itC bs s k).2).1 < _; omega⟩, h2⟩
def cvs (bs : List Int) : List Vt := (itC bs (q3 bs) (cnum bs).toNat).1
def cst (bs : List Int) : St := (itC bs (q3 bs) (cnum bs).toNat).2
/-- Where the number of votes stands. -/
def cat' (bs : List Int) : Int := (bs.length : Int) - restS bs (q2 bs)
/-- The fault; the commit. -/
def cE (bs : List Int) : Int × Int :=
  if 64 < cnum bs then (4, cat' bs) else if (endS bs (cst bs)).1 ≠ 0 then endS bs (cst bs) else if chk (cht bs) (cvs bs) ≠ 0 then (chk (cht bs) (cvs bs), 0) else (0, 0)
def dht (bs : List Int) : Int := if (cE bs).1 = 0 then cht bs else 0
def dhh (bs : List Int) : List Int := if (cE bs).1 = 0 then chh bs else List.replicate 32 0
def dvs (bs : List Int) : List Vt := if (cE bs).1 = 0 then cvs bs else []
theorem cnum_ok {bs : List Int} (hr : rng bs) : 0 ≤ cnum bs ∧ cnum bs ≤ 9223372036854775807 := rN_ok hr _
theorem cht_ok {bs : List Int} (hr : rng bs) : 0 ≤ cht bs ∧ cht bs ≤ 9223372036854775807 := rN_ok hr _
theorem dhh_len (bs : List Int) : (dhh bs).length = 32 := by
  unfold dhh
  split
  · exact rH_len _ _
  · rfl

/-! ### States -/
def stOk (bs : List Int) : St → Prop
  | .inl f => f.1 ≠ 0 ∧ 0 ≤ f.2 ∧ f.2 ≤ (bs.length : Int)
  | .inr p => p ≤ bs.length
theorem rO_st {α : Type} {z : α} {bs : List Int} {o : Nat → Sum Int (α × Nat)} (h1 : ∀ p c, o p = .inl c → c ≠ 0) (h2 : ∀ p x, o p = .inr x → x.2 ≤ bs.length) {s : St} (h : stOk bs s) : stOk bs (rO z o s).2 := by
  cases s with
  | inl f => exact h
  | inr p =>
    cases hn : o p with
    | inl c =>
      rw [rO_l hn]
      have : p ≤ bs.length := h
      exact ⟨h1 p c hn, by show (0 : Int) ≤ (p : Int); omega, by show (p : Int) ≤ (bs.length : Int); omega⟩
    | inr x =>
      rw [rO_r hn]
      exact h2 p x hn
theorem rN_st {bs : List Int} (hr : rng bs) {s : St} (h : stOk bs s) : stOk bs (rN bs s).2 := by
  rw [rN_rO]
  exact rO_st (fun _ _ h => num_code h) (fun _ x h => (num_fits hr (n := x.1) (p := x.2) h).2.2.2.1) h
theorem rH_st {bs : List Int} {s : St} (h : stOk bs s) : stOk bs (rH bs s).2 := rO_st (fun _ _ h => row_code h) (fun _ x h => (row_fits (l := x.1) (p := x.2) h).2.2.1) h
theorem rW_st {bs : List Int} (hr : rng bs) {s : St} (h : stOk bs s) : stOk bs (rW bs s).2 := rO_st (fun _ _ h => word_code h) (fun _ x h => (word_fits hr (n := x.1) (p := x.2) h).2.2.2.1) h
theorem itC_st {bs : List Int} (hr : rng bs) {s : St} (h : stOk bs s) : ∀ k, stOk bs (itC bs s k).2
  | 0 => h
  | k + 1 => rW_st hr (rN_st hr (itC_st hr h k))
theorem q2_st {bs : List Int} (hr : rng bs) : stOk bs (q2 bs) := rH_st (rN_st hr (Nat.zero_le _))
theorem q3_st {bs : List Int} (hr : rng bs) : stOk bs (q3 bs) := rN_st hr (q2_st hr)
theorem endS_st {bs : List Int} {s : St} (h : stOk bs s) : 0 ≤ (endS bs s).2 ∧ (endS bs s).2 ≤ (bs.length : Int) := by
  cases s with
  | inl f => exact h.2
  | inr p =>
    have e : endS bs (.inr p) = if p < bs.length then (4, (p : Int)) else (0, 0) := rfl
    rw [e]
    split
    · exact ⟨by show (0 : Int) ≤ (p : Int); omega, by show (p : Int) ≤ (bs.length : Int); omega⟩
    · exact ⟨Int.le_refl _, by show (0 : Int) ≤ (bs.length : Int); omega⟩
theorem end_zero {bs : List Int} {s : St} (h : stOk bs s) (h0 : (endS bs s).1 = 0) : s = .inr bs.length ∧ (endS bs s).2 = 0 := by
  cases s with
  | inl f => exact absurd h0 h.1
  | inr p =>
    have hp : p ≤ bs.length := h
    have e : endS bs (.inr p) = if p < bs.length then (4, (p : Int)) else (0, 0) := rfl
    rw [e] at h0 ⊢
    by_cases hlt : p < bs.length
    · rw [if_pos hlt] at h0
      exact absurd h0 (by show ¬ (4 : Int) = 0; decide)
    · rw [if_neg hlt]
      exact ⟨by rw [show p = bs.length by omega], rfl⟩
theorem cat_ok {bs : List Int} (hr : rng bs) : 0 ≤ cat' bs ∧ cat' bs ≤ (bs.length : Int) := by
  have h := q2_st hr
  unfold cat'
  cases hs : q2 bs with
  | inl f => exact ⟨by show 0 ≤ (bs.length : Int) - 0; omega, by show (bs.length : Int) - 0 ≤ _; omega⟩
  | inr p =>
    rw [hs] at h
    have hp : p ≤ bs.length := h
    exact ⟨by show 0 ≤ (bs.length : Int) - ((bs.length : Int) - (p : Int)); omega, by show (bs.length : Int) - ((bs.length : Int) - (p : Int)) ≤ _; omega⟩
theorem cE_at {bs : List Int} (hr : rng bs) : 0 ≤ (cE bs).2 ∧ (cE bs).2 ≤ (bs.length : Int) := by
  unfold cE
  split
  · exact cat_ok hr
  split
  · exact endS_st (itC_st hr (q3_st hr) _)
  split
  · exact ⟨Int.le_refl _, by show (0 : Int) ≤ (bs.length : Int); omega⟩
  · exact ⟨Int.le_refl _, by show (0 : Int) ≤ (bs.length : Int); omega⟩
/-- No fault: what has been read. -/
theorem cE_zero {bs : List Int} (h : (cE bs).1 = 0) : ¬ 64 < cnum bs ∧ (endS bs (cst bs)).1 = 0 ∧ chk (cht bs) (cvs bs) = 0 ∧ cE bs = (0, 0) := by
  unfold cE at h ⊢
  by_cases h1 : 64 < cnum bs
  · rw [if_pos h1] at h
    exact absurd h (by show ¬ (4 : Int) = 0; decide)
  rw [if_neg h1] at h ⊢
  by_cases h2 : (endS bs (cst bs)).1 = 0
  · rw [if_neg (by simpa using h2)] at h ⊢
    by_cases h3 : chk (cht bs) (cvs bs) = 0
    · rw [if_neg (by simpa using h3)]
      exact ⟨h1, h2, h3, rfl⟩
    · rw [if_pos h3] at h
      exact absurd h h3
  · rw [if_pos h2] at h
    exact absurd h h2

/-! ### What is decoded is encoded so -/
theorem rO_inv {α : Type} {z : α} {bs : List Int} {o : Nat → Sum Int (α × Nat)} {news : α → List Int} (hf : ∀ q x, o q = .inr x → Fits bs q x.2 (news x.1)) {s : St} {p : Nat} (h : (rO z o s).2 = .inr p) : ∃ q, s = .inr q ∧ Fits bs q p (news (rO z o s).1) := by
  cases s with
  | inl f => cases h
  | inr q =>
    refine ⟨q, rfl, ?_⟩
    cases hn : o q with
    | inl c => rw [rO_l hn] at h; cases h
    | inr x =>
      rw [rO_r hn] at h ⊢
      cases h
      exact hf q x hn
theorem rN_inv {bs : List Int} (hr : rng bs) {s : St} {p : Nat} (h : (rN bs s).2 = .inr p) : ∃ q, s = .inr q ∧ Fits bs q p (numB (rN bs s).1) := by
  rw [rN_rO] at h ⊢
  exact rO_inv (fun _ x h => (num_fits hr (n := x.1) (p := x.2) h).2.2) h
theorem rH_inv {bs : List Int} {s : St} {p : Nat} (h : (rH bs s).2 = .inr p) : ∃ q, s = .inr q ∧ Fits bs q p (rH bs s).1 :=
  rO_inv (news := id) (fun _ x h => (row_fits (l := x.1) (p := x.2) h).2) h
theorem rW_inv {bs : List Int} (hr : rng bs) {s : St} {p : Nat} (h : (rW bs s).2 = .inr p) : ∃ q, s = .inr q ∧ Fits bs q p (wordB (rW bs s).1) :=
  rO_inv (fun _ x h => (word_fits hr (n := x.1) (p := x.2) h).2.2) h
theorem itC_inv {bs : List Int} (hr : rng bs) {s : St} (h0 : stOk bs s) : ∀ k p, (itC bs s k).2 = .inr p → ∃ q, s = .inr q ∧ Fits bs q p (citems (itC bs s k).1)
  | 0, p, h => by
    have h : s = .inr p := h
    rw [h] at h0
    exact ⟨p, h, Nat.le_refl _, h0, by simp [citems, itC]⟩
  | k + 1, p, h => by
    obtain ⟨a, ea, fa⟩ := rW_inv hr (s := (rN bs (itC bs s k).2).2) h
    obtain ⟨b, eb, fb⟩ := rN_inv hr (s := (itC bs s k).2) ea
    obtain ⟨q, eq, fq⟩ := itC_inv hr h0 k b eb
    refine ⟨q, eq, ?_⟩
    rw [itC]
    simp only
    rw [citems_app]
    have e : citems [⟨(rN bs (itC bs s k).2).1, (rW bs (rN bs (itC bs s k).2).2).1⟩] = numB (rN bs (itC bs s k).2).1 ++ wordB (rW bs (rN bs (itC bs s k).2).2).1 := by simp [citems, citem]
    rw [e]
    exact fits_trans fq (fits_trans fb fa)
theorem enc_dec {bs : List Int} (hr : rng bs) (h : (cE bs).1 = 0) : chk (cht bs) (cvs bs) = 0 ∧ cform (cht bs) (chh bs) (cvs bs) = bs := by
  obtain ⟨_, h2, h3, _⟩ := cE_zero h
  refine ⟨h3, ?_⟩
  have hst := itC_st hr (q3_st hr) (cnum bs).toNat
  have he := (end_zero hst h2).1
  obtain ⟨a3, e3, f3⟩ := itC_inv hr (q3_st hr) _ _ he
  obtain ⟨a2, e2, f2⟩ := rN_inv hr (s := q2 bs) e3
  obtain ⟨a1, e1, f1⟩ := rH_inv (s := q1 bs) e2
  obtain ⟨a0, e0, f0⟩ := rN_inv hr (s := .inr 0) e1
  cases e0
  have hall := (fits_trans (fits_trans (fits_trans f0 f1) f2) f3).2.2
  rw [List.take_length, List.take_zero, List.nil_append] at hall
  unfold cform chead
  rw [show ((cvs bs).length : Int) = cnum bs from by
    unfold cvs
    rw [itC_len]
    have := (cnum_ok hr).1
    omega]
  exact hall

/-! ### Cut off -/
/-- A reader of bytes that are cut off, which should stand at p. -/
def Gd (cut p : Nat) (s : St) : Prop := (p ≤ cut → s = .inr p) ∧ (cut < p → ∃ q, s = .inl (6, q))
theorem gd_o {α : Type} {z x : α} {o : Nat → Sum Int (α × Nat)} {cut p p' : Nat} {s : St} (h : Gd cut p s) (hpp : p ≤ p') (a : p' ≤ cut → o p = .inr (x, p')) (b : cut < p' → o p = .inl 6) : Gd cut p' (rO z o s).2 ∧ (p' ≤ cut → (rO z o s).1 = x) ∧ (cut < p' → (rO z o s).1 = z) := by
  by_cases hp : p ≤ cut
  · rw [h.1 hp]
    by_cases hp' : p' ≤ cut
    · rw [rO_r (a hp')]
      exact ⟨⟨fun _ => rfl, fun h => absurd hp' (by omega)⟩, fun _ => rfl, fun h => absurd hp' (by omega)⟩
    · rw [rO_l (b (by omega))]
      exact ⟨⟨fun h => absurd h hp', fun _ => ⟨_, rfl⟩⟩, fun h => absurd h hp', fun _ => rfl⟩
  · obtain ⟨q, hq⟩ := h.2 (by omega)
    rw [hq]
    exact ⟨⟨fun h => absurd h (by omega), fun _ => ⟨q, rfl⟩⟩, fun h => absurd h (by omega), fun _ => rfl⟩
/-- Where a list's parts lie. -/
theorem fits_app (a b c : List Int) : Fits ((a ++ b) ++ c) a.length (a ++ b).length b := by
  refine ⟨by simp, by simp, ?_⟩
  rw [List.take_left' rfl, List.append_assoc, List.take_left' rfl]
theorem gd_num {bs : List Int} {cut p p' : Nat} {s : St} {n : Int} (h : Gd cut p s) (h0 : 0 ≤ n) (h1 : n < 9223372036854775808) (hf : Fits bs p p' (numB n)) (hc : cut ≤ bs.length) : Gd cut p' (rN (bs.take cut) s).2 ∧ (p' ≤ cut → (rN (bs.take cut) s).1 = n) ∧ (cut < p' → (rN (bs.take cut) s).1 = 0) := by
  rw [rN_rO]
  obtain ⟨a, b⟩ := num_oc h0 h1 hf hc
  exact gd_o h hf.1 a b
theorem gd_hash {bs : List Int} {cut p p' : Nat} {s : St} {l : List Int} (h : Gd cut p s) (hl : l.length = 32) (hf : Fits bs p p' l) (hc : cut ≤ bs.length) : Gd cut p' (rH (bs.take cut) s).2 ∧ (p' ≤ cut → (rH (bs.take cut) s).1 = l) := by
  obtain ⟨a, b⟩ := row_oc hl hf hc
  have := gd_o (z := zz 32) h hf.1 a b
  exact ⟨this.1, this.2.1⟩
theorem gd_word {bs : List Int} {cut p p' : Nat} {s : St} {n : Int} (h : Gd cut p s) (h0 : 0 ≤ n) (h1 : n < 18446744073709551616) (hf : Fits bs p p' (wordB n)) (hc : cut ≤ bs.length) : Gd cut p' (rW (bs.take cut) s).2 ∧ (p' ≤ cut → (rW (bs.take cut) s).1 = n) := by
  obtain ⟨a, b⟩ := word_oc h0 h1 hf hc
  have := gd_o (z := (0 : Int)) h hf.1 a b
  exact ⟨this.1, this.2.1⟩
def pos (hd : List Int) (vs : List Vt) (k : Nat) : Nat := (hd ++ citems (vs.take k)).length
theorem form_at (hd : List Int) (vs : List Vt) (r : List Int) {k : Nat} {x : Vt} (h : vs[k]? = some x) : (hd ++ citems vs) ++ r = (((hd ++ citems (vs.take k)) ++ numB x.at') ++ wordB x.sg) ++ (citems (vs.drop (k + 1)) ++ r) := by
  have e : citems vs = citems (vs.take (k + 1)) ++ citems (vs.drop (k + 1)) := by rw [← citems_app, List.take_append_drop]
  rw [e, citems_succ h]
  simp only [List.append_assoc]
theorem gd_items {hd : List Int} {vs : List Vt} (r : List Int) {cut : Nat} (hv : ∀ x ∈ vs, 0 ≤ x.at' ∧ x.at' < 9223372036854775808 ∧ 0 ≤ x.sg ∧ x.sg < 18446744073709551616) {s : St} (hc : cut ≤ ((hd ++ citems vs) ++ r).length) (h0 : Gd cut hd.length s) : ∀ k, k ≤ vs.length →
    Gd cut (pos hd vs k) (itC (((hd ++ citems vs) ++ r).take cut) s k).2 ∧ (pos hd vs k ≤ cut → (itC (((hd ++ citems vs) ++ r).take cut) s k).1 = vs.take k)
  | 0, _ => by
    have e : pos hd vs 0 = hd.length := by simp [pos, citems]
    rw [e]
    exact ⟨h0, fun _ => by simp [itC]⟩
  | k + 1, hk => by
    obtain ⟨i1, i2⟩ := gd_items r hv hc h0 k (by omega)
    have hx : vs[k]? = some (vs[k]'(by omega)) := List.getElem?_eq_getElem _
    obtain ⟨x, ex⟩ : ∃ x, vs[k]'(by omega) = x := ⟨_, rfl⟩
    rw [ex] at hx
    have hm : x ∈ vs := List.mem_of_getElem? hx
    obtain ⟨v1, v2, v3, v4⟩ := hv x hm
    have hform := form_at hd vs r hx
    have f1 : Fits ((hd ++ citems vs) ++ r) (pos hd vs k) ((hd ++ citems (vs.take k)) ++ numB x.at').length (numB x.at') := by
      rw [hform, List.append_assoc (_ ++ numB x.at')]
      exact fits_app _ _ _
    have f2 : Fits ((hd ++ citems vs) ++ r) ((hd ++ citems (vs.take k)) ++ numB x.at').length (((hd ++ citems (vs.take k)) ++ numB x.at') ++ wordB x.sg).length (wordB x.sg) := by
      rw [hform]
      exact fits_app _ _ _
    have ep : pos hd vs (k + 1) = (((hd ++ citems (vs.take k)) ++ numB x.at') ++ wordB x.sg).length := by
      unfold pos
      rw [citems_succ hx]
      simp only [List.append_assoc]
    have m1 := f1.1
    have m2 := f2.1
    obtain ⟨g1, w1, _⟩ := gd_num i1 v1 v2 f1 hc
    obtain ⟨g2, w2⟩ := gd_word g1 v3 v4 f2 hc
    rw [ep, itC]
    refine ⟨g2, fun hle => ?_⟩
    simp only
    rw [i2 (by omega), w1 (by omega), w2 hle, List.take_add_one, hx]
    rfl
theorem pos_full (hd : List Int) (vs : List Vt) : pos hd vs vs.length = (hd ++ citems vs).length := by
  unfold pos
  rw [List.take_length]
theorem vs_ok {ht : Int} {vs : List Vt} (hc : chk ht vs = 0) (hok : ∀ x ∈ vs, x.ok) : ∀ x ∈ vs, 0 ≤ x.at' ∧ x.at' < 9223372036854775808 ∧ 0 ≤ x.sg ∧ x.sg < 18446744073709551616 := fun x hx => by
  have h1 := ((chk_up ht vs).1 hc).2.2.rng x hx
  have h2 := (hok x hx).s
  exact ⟨by omega, by omega, h2.1, h2.2⟩
theorem read_cut {ht : Int} {h : List Int} {vs : List Vt} (hl : h.length = 32) (hc : chk ht vs = 0) (hok : ∀ x ∈ vs, x.ok) (r : List Int) {cut : Nat} (hcut : cut ≤ (cform ht h vs ++ r).length) (B : List Int) (hB : B = (cform ht h vs ++ r).take cut) :
    ((cform ht h vs).length ≤ cut → cnum B = (vs.length : Int) ∧ cht B = ht ∧ chh B = h ∧ cvs B = vs ∧ cst B = .inr (cform ht h vs).length) ∧ (cut < (cform ht h vs).length → ¬ 64 < cnum B ∧ ∃ q, cst B = .inl (6, q)) := by
  obtain ⟨c1, c2, c3⟩ := (chk_up ht vs).1 hc
  have f0 : Fits (cform ht h vs ++ r) 0 (numB ht).length (numB ht) := by
    have := fits_app [] (numB ht) (h ++ (numB (vs.length : Int) ++ (citems vs ++ r)))
    unfold cform chead
    simpa using this
  have f1 : Fits (cform ht h vs ++ r) (numB ht).length (numB ht ++ h).length h := by
    have := fits_app (numB ht) h (numB (vs.length : Int) ++ (citems vs ++ r))
    unfold cform chead
    simpa using this
  have f2 : Fits (cform ht h vs ++ r) (numB ht ++ h).length (chead ht h vs.length).length (numB (vs.length : Int)) := by
    have := fits_app (numB ht ++ h) (numB (vs.length : Int)) (citems vs ++ r)
    unfold cform chead
    simpa using this
  have g : Gd cut 0 (.inr 0) := ⟨fun _ => rfl, fun h => absurd h (by omega)⟩
  have m1 := f1.1
  have m2 := f2.1
  have m3 : (chead ht h vs.length).length ≤ (cform ht h vs).length := by unfold cform; simp
  obtain ⟨g1, w1, _⟩ := gd_num g (by omega) (by omega) f0 hcut
  obtain ⟨g2, w2⟩ := gd_hash g1 hl f1 hcut
  obtain ⟨g3, w3, z3⟩ := gd_num g2 (by omega) (by omega) f2 hcut
  have gi := gd_items (hd := chead ht h vs.length) r (vs_ok hc hok) (s := (rN ((cform ht h vs ++ r).take cut) (rH ((cform ht h vs ++ r).take cut) (rN ((cform ht h vs ++ r).take cut) (.inr 0)).2).2).2) hcut g3 vs.length (Nat.le_refl _)
  rw [pos_full] at gi
  change Gd cut (cform ht h vs).length (itC ((cform ht h vs ++ r).take cut) _ _).2 ∧ ((cform ht h vs).length ≤ cut → (itC ((cform ht h vs ++ r).take cut) _ _).1 = _) at gi
  rw [← hB] at gi w1 w2 w3 z3 g3
  rw [List.take_length] at gi
  constructor
  · intro hle
    have hn : cnum B = (vs.length : Int) := w3 (by omega)
    refine ⟨hn, w1 (by omega), w2 (by omega), ?_, ?_⟩
    · unfold cvs
      rw [hn, Int.toNat_natCast]
      exact gi.2 hle
    · unfold cst
      rw [hn, Int.toNat_natCast]
      exact gi.1.1 hle
  · intro hlt
    by_cases hp : (chead ht h vs.length).length ≤ cut
    · have hn : cnum B = (vs.length : Int) := w3 hp
      refine ⟨by rw [hn]; omega, ?_⟩
      unfold cst
      rw [hn, Int.toNat_natCast]
      exact gi.1.2 hlt
    · have hn : cnum B = 0 := z3 (by omega)
      refine ⟨by rw [hn]; omega, ?_⟩
      unfold cst
      rw [hn]
      exact g3.2 (by omega)
theorem dec_whole {ht : Int} {h : List Int} {vs : List Vt} (hl : h.length = 32) (hc : chk ht vs = 0) (hok : ∀ x ∈ vs, x.ok) : cE (cform ht h vs) = (0, 0) ∧ cht (cform ht h vs) = ht ∧ chh (cform ht h vs) = h ∧ cvs (cform ht h vs) = vs := by
  have c2 := ((chk_up ht vs).1 hc).2.1
  obtain ⟨e1, e2, e3, e4, e5⟩ := (read_cut hl hc hok [] (cut := (cform ht h vs).length) (by simp) (cform ht h vs) (by rw [List.append_nil, List.take_length])).1 (Nat.le_refl _)
  refine ⟨?_, e2, e3, e4⟩
  unfold cE
  rw [e1, e2, e4, e5, if_neg (by omega), if_neg (by simp [endS]), if_neg (by simp [hc])]
theorem dec_more {ht : Int} {h : List Int} {vs : List Vt} (hl : h.length = 32) (hc : chk ht vs = 0) (hok : ∀ x ∈ vs, x.ok) (x : Int) : cE (cform ht h vs ++ [x]) = (4, ((cform ht h vs).length : Int)) := by
  have c2 := ((chk_up ht vs).1 hc).2.1
  obtain ⟨e1, e2, e3, e4, e5⟩ := (read_cut hl hc hok [x] (cut := (cform ht h vs ++ [x]).length) (Nat.le_refl _) (cform ht h vs ++ [x]) (by rw [List.take_length])).1 (by simp)
  have e : endS (cform ht h vs ++ [x]) (.inr (cform ht h vs).length) = (4, ((cform ht h vs).length : Int)) := by
    show (if (cform ht h vs).length < (cform ht h vs ++ [x]).length then _ else _) = _
    rw [if_pos (by simp)]
  unfold cE
  rw [e1, e5, e, if_neg (by omega), if_pos (by show ¬ (4 : Int) = 0; decide)]
theorem dec_cut {ht : Int} {h : List Int} {vs : List Vt} (hl : h.length = 32) (hc : chk ht vs = 0) (hok : ∀ x ∈ vs, x.ok) {cut : Nat} (hlt : cut < (cform ht h vs).length) : (cE ((cform ht h vs).take cut)).1 = 6 := by
  obtain ⟨e1, q, e5⟩ := (read_cut hl hc hok [] (cut := cut) (by rw [List.append_nil]; omega) ((cform ht h vs).take cut) (by rw [List.append_nil])).2 hlt
  unfold cE
  rw [if_neg e1, e5, if_pos (by show ¬ (6 : Int) = 0; decide)]
  rfl
end CmF
end Go.Proofs.Ythcemghamdmjmaa

namespace Go.Proofs.Ythcemghamdmjmaa
namespace CmH
open Go.RowKit
open BlkM WirM WirS CmA CmP CmB CmJ CmL CmF
open WirA (WSt Wrote putZ putE)
open WirD (numB)
open WirF (wordB)
open WirE (newB_nil NewB)
open WirX (Thg Bag BW bw_of wtr bag_wtr own bag_own)
open WirAA (box bag_box)
open WirAB (sCx)
open ValJ (Wr w_num w_hash w_ok numB_le)

theorem w_word {w0 w : World} {l : List Thg} {W : Nat} {lim : Int} {v : Value} {ys : List Int} (n : Int) (h : Bag w0 w (wtr W lim v ys 0 :: l)) (h0 : 0 ≤ n) (h1 : n < 18446744073709551616) (hl : ((ys.length + (wordB n).length : Nat) : Int) ≤ lim) :
    Calls Try.prog 96 #[.pointer (some ⟨W, 0, none⟩), .int .u64 n] w (Wr w0 l W lim (ys ++ wordB n)) := by
  obtain ⟨e1, e2⟩ := w_ok hl
  have C := bw_of h (WirF.word_any w W lim v ys 0 n h0 h1 h.head)
  rw [e1, e2] at C
  exact C
set_option maxRecDepth 10000 in
set_option maxHeartbeats 4000000 in
theorem encode_bad (w : World) (ht : Int) (h : List Int) (a : Option Addr) (n c : Nat) (vs : List Vt) (hl : h.length = 32) (hv : VtIn w a n c vs) (hc : chk ht vs ≠ 0) :
    Calls Try.prog 66 #[.agg (ccl ht h (.slice a n c)).toArray] w fun e w' => e = .returned (.tuple #[.slice none 0 0, .int .i64 (chk ht vs)]) ∧ Below w.heap.size w w' := by
  have HL := WirS.hide hl
  have hbX := bag_box (w0 := w) (T := TC) (cs := ccl ht h (.slice a n c)) (X := w.heap.size) (Bag.nil (Below.refl _ _)) rfl (w' := w.alloc (.cells (ccl ht h (.slice a n c)).toArray TC)) (At.new _ _ _) (Below.alloc (Below.refl _ _) (Nat.le_refl _) _)
  have HCK := WirS.hide (fun U (hU : Below w.heap.size w U) => check_any U ht h a n c vs hl (hv.below hU))
  generalize chk ht vs = cd at *
  have hn0 : (cd == 0) = false := by simpa using hc
  have hn1 : (cd != 0) = true := by simpa using hc
  clear hl hv hc
  go_enter Try.func66, Try.ntmps66
  go_upto_region 0 with fail
  refine wp_region_lit ?_
  refine sV (.pointer (some ⟨w.heap.size, 0, none⟩)) (w.alloc (.cells (ccl ht h (.slice a n c)).toArray TC)) (by kernel_rfl) (by kernel_rfl) ?_
  simp only [Act.put, List.setIfInBounds_toArray, List.set_cons_succ, List.set_cons_zero]
  obtain ⟨X, eX⟩ : ∃ A, w.heap.size = A := ⟨_, rfl⟩
  rw [eX] at hbX ⊢
  clear eX
  generalize World.alloc w _ = x0 at *
  have H0 := WirS.hide hbX
  clear hbX
  go_upto_region 1 with fail
  refine wp_region_lit ?_
  refine sL (by kernel_rfl) _ _ (by rfl) _ (by kernel_rfl) H0.out.head _ _ UC rfl (by kernel_rfl) (by rw [ccl_len _ _ _ HL.out]) ?_
  simp only [Act.put, List.setIfInBounds_toArray, List.set_cons_succ, List.set_cons_zero]
  refine sC (R := fun w' => Below x0.heap.size x0 w') (by kernel_rfl) (by kernel_rfl) (HCK.out x0 H0.out.low) ?_
  rintro x1 hb
  simp only [Act.put, List.setIfInBounds_toArray, List.set_cons_succ, List.set_cons_zero]
  have H1 := WirS.hide (H0.out.more hb)
  clear hb H0
  go_wp2_with fail
  go_ret2
  exact ⟨rfl, H1.out.low⟩
def MidE (w : World) (W n : Nat) (hd : List Int) (vs : List Vt) (i : Value) (U : World) : Prop :=
  ∃ (k : Nat) (v : Value), k ≤ n ∧ i = .int .i64 (k : Int) ∧ Bag w U [wtr W 1048576 v (hd ++ citems (vs.take k)) 0]
/-- What Encode makes. -/
def EncP (w : World) (zs : List Int) (e : Ending) (w' : World) : Prop := ∃ va vn vc, e = .returned (.tuple #[.slice va vn vc, .int .i64 0]) ∧ WirM.Own w' 5 (.slice va vn vc) zs ∧ NewB w (.slice va vn vc) ∧ Below w.heap.size w w'
set_option maxRecDepth 10000 in
set_option maxHeartbeats 8000000 in
theorem encode_ok (w : World) (ht : Int) (h : List Int) (a : Option Addr) (n c : Nat) (vs : List Vt) (hl : h.length = 32) (hv : VtIn w a n c vs) (hc : chk ht vs = 0) :
    Calls Try.prog 66 #[.agg (ccl ht h (.slice a n c)).toArray] w (EncP w (cform ht h vs)) := by
  have hlen := hv.len
  obtain ⟨c1, c2, c3⟩ := (chk_up ht vs).1 hc
  have hn64 : n ≤ 64 := by omega
  have HL := WirS.hide hl
  have HV := WirS.hide hv
  have HLE := WirS.hide hlen
  have HOK := WirS.hide (vs_ok hc hv.ok)
  have HIL := WirS.hide (fun k => Nat.le_trans (citems_len (vs.take k) (fun x hx => hv.ok x (List.mem_of_mem_take hx))) (Nat.mul_le_mul_left 17 (List.length_take_le' k vs)))
  have HHL := WirS.hide (chead_len ht h n hl (by omega) (by omega))
  have HTL := WirS.hide (numB_le ht (by omega))
  have HNL := WirS.hide (numB_le (n : Int) (by omega))
  have HT := WirS.hide c1
  have hbX := bag_box (w0 := w) (T := TC) (cs := ccl ht h (.slice a n c)) (X := w.heap.size) (Bag.nil (Below.refl _ _)) rfl (w' := w.alloc (.cells (ccl ht h (.slice a n c)).toArray TC)) (At.new _ _ _) (Below.alloc (Below.refl _ _) (Nat.le_refl _) _)
  have HCK := WirS.hide (fun U (hU : Below w.heap.size w U) => check_any U ht h a n c vs hl (hv.below hU))
  rw [hc] at HCK
  have HFM := WirS.hide (show cform ht h vs = chead ht h n ++ citems vs by unfold cform; rw [hlen])
  rw [HFM.out]
  clear hl hv hc hlen c1 c2 c3
  go_enter Try.func66, Try.ntmps66
  go_upto_region 0 with fail
  refine wp_region_lit ?_
  refine sV (.pointer (some ⟨w.heap.size, 0, none⟩)) (w.alloc (.cells (ccl ht h (.slice a n c)).toArray TC)) (by kernel_rfl) (by kernel_rfl) ?_
  simp only [Act.put, List.setIfInBounds_toArray, List.set_cons_succ, List.set_cons_zero]
  obtain ⟨X, eX⟩ : ∃ A, w.heap.size = A := ⟨_, rfl⟩
  rw [eX] at hbX ⊢
  clear eX
  generalize World.alloc w _ = x0 at *
  have H0 := WirS.hide hbX
  clear hbX
  go_upto_region 1 with fail
  refine wp_region_lit ?_
  refine sL (by kernel_rfl) _ _ (by rfl) _ (by kernel_rfl) H0.out.head _ _ UC rfl (by kernel_rfl) (by rw [ccl_len _ _ _ HL.out]) ?_
  simp only [Act.put, List.setIfInBounds_toArray, List.set_cons_succ, List.set_cons_zero]
  refine sC (R := fun w' => Below x0.heap.size x0 w') (by kernel_rfl) (by kernel_rfl) (HCK.out x0 H0.out.low) ?_
  rintro x1 hb
  simp only [Act.put, List.setIfInBounds_toArray, List.set_cons_succ, List.set_cons_zero]
  have H1 := WirS.hide (H0.out.more hb)
  clear hb H0
  go_upto_region 7 with ((go_at_call 20; refine (WirF.new_any _ 1048576 (by omega) (by omega)).mono ?_; rintro e w2 ⟨W, rfl, hW, hs, hb2⟩; have H2 := WirS.hide (bag_wtr H1.out hW hs (newB_nil _ _ _) hb2); clear hW hs hb2 H1))
  have HN := WirS.hide (w_num ht H2.out (by have := HT.out; omega) (by have := HT.out; omega) (by have := HTL.out; simp; omega))
  rw [List.nil_append] at HN
  have k0 : w2.cell? ⟨X, 0, none⟩ = some (.int .i64 ht) := H2.out.drop.head.cell 0
  go_upto_region 8 with ((go_at_call 45; refine (HN.out).mono ?_; rintro e w3 ⟨rfl, v3, hb⟩; have H3 := WirS.hide hb; clear hb HN))
  clear k0 H2
  refine wp_region_lit ?_
  refine sV (.pointer (some ⟨W, 0, none⟩)) (w3) (by kernel_rfl) (by kernel_rfl) ?_
  simp only [Act.put, List.setIfInBounds_toArray, List.set_cons_succ, List.set_cons_zero]
  refine sV (.pointer (some ⟨X, 1, none⟩)) (w3) (by kernel_rfl) (by kernel_rfl) ?_
  simp only [Act.put, List.setIfInBounds_toArray, List.set_cons_succ, List.set_cons_zero]
  refine wpList_load_mid' (by kernel_rfl) _ _ (by rfl) X 1 (by kernel_rfl) (b8 h) _ (range_hash H3.out.drop.head) Try.underlying34 (by rfl) (by rw [b8_len, HL.out]; kernel_rfl) ?_
  simp only [Act.put, List.setIfInBounds_toArray, List.set_cons_succ, List.set_cons_zero]
  refine sCx (by kernel_rfl) (by kernel_rfl) (w_hash h HL.out H3.out (by have := HTL.out; have := HL.out; omega)) ?_
  rintro e w4 ⟨rfl, v4, hb⟩
  refine ⟨_, rfl, ?_⟩
  simp only [Act.put, List.setIfInBounds_toArray, List.set_cons_succ, List.set_cons_zero]
  have H4 := WirS.hide hb
  clear hb H3
  have HN := WirS.hide (w_num (n : Int) H4.out (by omega) (by omega) (by have := HTL.out; have := HNL.out; have := HL.out; rw [List.length_append]; omega))
  have k33 : w4.cell? ⟨X, 33, none⟩ = some (.slice a n c) := (H4.out.drop.head.cell 33).trans (ccl_33 _ _ _ HL.out)
  go_upto_region 10 with ((go_at_call 45; refine (HN.out).mono ?_; rintro e w5 ⟨rfl, v5, hb⟩; have H5 := WirS.hide hb; clear hb HN))
  clear k33 H4
  have k33 : w5.cell? ⟨X, 33, none⟩ = some (.slice a n c) := (H5.out.drop.head.cell 33).trans (ccl_33 _ _ _ HL.out)
  have H6 : Hid (Bag w w5 [wtr W 1048576 v5 (chead ht h n) 0]) := WirS.hide (Bag.drop (H5.out.swap))
  clear H5
  go_wp2_with fail
  go_loopw [37] (fun i wr => MidE w W n (chead ht h n) vs i wr) (fun i _ => n - (intOf i).toNat)
  case atStart => exact ⟨0, v5, Nat.zero_le _, rfl, by rw [List.take_zero]; simpa [citems] using H6.out⟩
  case round =>
    clear H6 k33
    obtain ⟨k, v, hk, rfl, hB⟩ := hrel
    generalize chead ht h n = hd at *
    by_cases hlt : k < n
    · obtain ⟨x, B, o, hx, hmem, rfl, hBl, hr⟩ := (HV.out.below hB.low).cell hlt
      have r0 : wr.cell? ⟨B, o + k * 2, none⟩ = some (.int .i64 x.at') := hr 0 _ rfl
      have r1 : wr.cell? ⟨B, o + k * 2 + 1, none⟩ = some (.int .u64 x.sg) := hr 1 _ rfl
      have hkl : (k : Int) < (n : Int) := by omega
      obtain ⟨Y, hYe⟩ : ∃ Y, Y = wr.heap.size := ⟨_, rfl⟩
      have hbx := (bag_box (T := TV) (cs := x.cells) hB hYe (w' := wr.alloc (.cells #[.int .i64 x.at', .int .u64 x.sg] TV)) (by rw [hYe]; exact At.new wr _ _) (Below.alloc (Below.refl _ _) (Nat.le_refl _) _)).swap
      obtain ⟨o1, o2, o3, o4⟩ := HOK.out x hmem
      have hil := HIL.out k
      have hhl := HHL.out
      have hvl := HLE.out
      have hil2 : (citems (vs.take k)).length ≤ 1088 := Nat.le_trans hil (by omega)
      have hal := numB_le x.at' (by omega)
      have HK := WirS.hide (w_num x.at' hbx o1 o2 (by rw [List.length_append]; omega))
      have HW := WirS.hide (fun (U : World) (v' : Value) (hb : Bag w U [wtr W 1048576 v' ((hd ++ citems (vs.take k)) ++ numB x.at') 0, box TV Y x.cells]) => w_word x.sg hb o3 o4 (by simp only [List.length_append, wordB_len]; omega))
      have HXX := WirS.hide hx
      clear hr hx hmem hB hbx o1 o2 o3 o4 hil hhl hvl hil2 hal
      go_wp2_with (first | (go_at_call 45; refine (HK.out).mono ?_; rintro e u1 ⟨rfl, v1, hb1⟩; have HB1 := WirS.hide hb1; have d1 : u1.cell? ⟨Y, 1, none⟩ = some (.int .u64 x.sg) := hb1.swap.head.cell 1; rw [hYe] at d1; clear hb1) | (go_at_call 96; refine (HW.out _ _ HB1.out).mono ?_; rintro e u2 ⟨rfl, v2, hb2⟩; have HB2 := WirS.hide hb2; clear hb2))
      go_roundw
      case rel => exact ⟨k + 1, v2, by omega, by go_num, by rw [citems_succ HXX.out, ← List.append_assoc, ← List.append_assoc]; exact HB2.out.swap.drop⟩
      case measure => simp [intOf]; omega
    · obtain rfl : k = n := by omega
      have hD := WirF.done_ok wr W 1048576 v _ hB.head
      rw [List.take_of_length_le (by rw [HLE.out]; exact Nat.le_refl _)] at hD
      have HD := WirS.hide hD
      have HBl := WirS.hide hB.low
      clear hB hD
      go_wp2_with ((go_at_call 27; refine (HD.out).mono ?_; rintro e u2 ⟨da, dn, dc, rfl, ho, hnw, hb⟩; have HO := WirS.hide ho; have HNW := WirS.hide hnw; have HB2 := WirS.hide hb; clear ho hnw hb))
      go_ret2
      exact ⟨_, _, _, rfl, HO.out, fun q hq => Nat.le_trans HBl.out.size (HNW.out q hq), HBl.out.trans (HB2.out.mono HBl.out.size)⟩
end CmH
end Go.Proofs.Ythcemghamdmjmaa

namespace Go.Proofs.Ythcemghamdmjmaa
namespace CmM
open Go.RowKit
open BlkM WirM WirS CmA CmP CmB CmJ CmL CmF CmU
open WirE (NewB)
open WirX (Thg Bag)
open WirAA (box bag_box bag_set bag_sets)
open WirAB (sCx)
open WirP (aggB)
open WirRT (rng)
open ValK ValSK ValSM ValSN
open ValSG (restS)

/-- A call as a step of a drawn region. -/
theorem stepCallH {P : Program} {o : Oper} {a : Act} {w : World} {K : Act → World → Prop} {Q : Exit → Act → World → Prop} {f : FuncId} {args : Array Value} {v : Value} {R : World → Prop} (hrun : (execOp a.eval o).run P w = .ok (.enter f args) w)
    (hc : Calls P f args w fun e w' => e = .returned v ∧ R w') (h : ∀ w', R w' → K (a.put o.dst v) w') : o.wp P a w K Q := by
  unfold Oper.wp
  rw [hrun, Oper.upon_enter]
  exact hc.mono (by rintro e w' ⟨rfl, hr⟩; exact h w' hr)
theorem at3 {w0 w : World} {a b c : Thg} {l : List Thg} (h : Bag w0 w (a :: b :: c :: l)) : Bag w0 w (c :: a :: b :: l) :=
  h.perm (show (([a, b] : List Thg) ++ c :: l).Perm (c :: ([a, b] ++ l)) from List.perm_middle)
theorem at4 {w0 w : World} {a b c d : Thg} {l : List Thg} (h : Bag w0 w (a :: b :: c :: d :: l)) : Bag w0 w (d :: a :: b :: c :: l) :=
  h.perm (show (([a, b, c] : List Thg) ++ d :: l).Perm (d :: ([a, b, c] ++ l)) from List.perm_middle)
theorem at5 {w0 w : World} {a b c d e : Thg} {l : List Thg} (h : Bag w0 w (a :: b :: c :: d :: e :: l)) : Bag w0 w (e :: a :: b :: c :: d :: l) :=
  h.perm (show (([a, b, c, d] : List Thg) ++ e :: l).Perm (e :: ([a, b, c, d] ++ l)) from List.perm_middle)
theorem rangeAt0 {w : World} {X : Nat} {T : TypeId} {cs : List Value} (h : At w X T cs) : w.rangeAt X 0 cs := fun j v hj => by
  rw [Nat.zero_add, h.cell]
  exact hj
def FT : TypeId := 55
def f2 (a b : Int) : List Value := [.int .i64 a, .int .i64 b]
def v0 : Vt := ⟨0, 0⟩
theorem cells_made (n : Nat) : (madeCells v0.cells.toArray (n * 2)).toList = cellsL (List.replicate n v0) := by
  apply List.ext_getElem?
  intro j
  by_cases hj : j < n * 2
  · have h1 := cellsL_get (List.replicate n v0) (j / 2) v0 (by rw [List.getElem?_replicate, if_pos (by omega)]) (j % 2) _ (List.getElem?_eq_getElem (show j % 2 < v0.cells.length by rw [cells_len]; omega))
    rw [show j / 2 * 2 + j % 2 = j by omega] at h1
    rw [h1]
    have h5 : j % 2 < 2 := Nat.mod_lt _ (by decide)
    simp [madeCells, hj, Vt.cells]
    rw [List.getElem?_eq_getElem (by simpa using h5)]
    rfl
  · rw [List.getElem?_eq_none (by rw [Array.length_toList, size_madeCells]; omega), List.getElem?_eq_none (by rw [cellsL_len, List.length_replicate]; omega)]
theorem mkT (a : Operand → Value) (o : Oper) (x y : Operand) (n : Nat) (ho : o.op = Op.makeSlice 92 x y) (hx : a x = .int .i64 (n : Int)) (hy : a y = .int .i64 (n : Int)) (hn : n ≤ 1000000) (W : World) :
    (execOp a o).run Try.prog W = .ok (.value (.slice (some ⟨W.heap.size, 0, none⟩) n n)) (W.alloc (.cells (cellsL (List.replicate n v0)).toArray TV)) := by
  obtain ⟨i0, hi, hz0, hz1, hz2⟩ := info_parts (show (Try.prog.info? 119).map (fun i => (i.zero, i.size, i.bytes)) = some (some (.agg v0.cells.toArray), 2, 16) by kernel_rfl)
  have hr := run_make (P := Try.prog) W 92 119 i0 _ Try.underlying92 hi hz0 .i64 .i64 (n : Int) (n : Int) (by omega) (Int.le_refl _) (by rw [hz2]; omega) (by omega)
  simp only [Int.toNat_natCast, hz1] at hr
  have hm : madeCells (Value.agg v0.cells.toArray).cells (n * 2) = (cellsL (List.replicate n v0)).toArray := by
    apply Array.ext'
    exact cells_made n
  rw [hm] at hr
  unfold execOp
  rw [ho]
  simp only [hx, hy]
  simp [hr]
theorem ix2 (B ln lc k : Nat) (hk : k < ln) (W : World) : (Instr.indexAt 92 (.slice (some ⟨B, 0, none⟩) ln lc) (.int .i64 (k : Int))).run Try.prog W = .ok (.pointer (some ⟨B, k * 2, none⟩)) W := by
  simp [Instr.indexAt, run_underlying Try.underlying92, asIntOf, go_sem]
  intro h
  omega
theorem op2 (a : Operand → Value) (ob : Oper) (x y : Operand) (B ln lc k : Nat) (ho : ob.op = Op.indexAddr 92 x y) (hx : a x = .slice (some ⟨B, 0, none⟩) ln lc) (hy : a y = .int .i64 (k : Int)) (hk : k < ln) (W : World) :
    (execOp a ob).run Try.prog W = .ok (.value (.pointer (some ⟨B, k * 2, none⟩))) W := by
  unfold execOp
  rw [ho]
  simp only [hx, hy]
  simp [ix2 B ln lc k hk W]
theorem cellsL_put (ls : List Vt) (x : Vt) (m : Nat) : (cellsL (ls ++ List.replicate (m + 1) v0)).take (ls.length * 2) ++ (x.cells ++ (cellsL (ls ++ List.replicate (m + 1) v0)).drop (ls.length * 2 + x.cells.length)) = cellsL ((ls ++ [x]) ++ List.replicate m v0) := by
  have e : cellsL (List.replicate (m + 1) v0) = v0.cells ++ cellsL (List.replicate m v0) := by rw [List.replicate_succ]; simp [cellsL]
  have e2 : cellsL [x] = x.cells := by simp [cellsL]
  rw [cellsL_app, cellsL_app, cellsL_app, e2, e, List.take_left' (cellsL_len ls)]
  rw [← List.drop_drop, List.drop_left' (cellsL_len ls), List.drop_left' (by rw [cells_len]; rfl), List.append_assoc]
/-- Cells of a block: votes in memory of their own. -/
theorem own_at {w : World} {X n : Nat} {vs : List Vt} (h : At w X TV (cellsL vs)) (hn : vs.length = n) (h64 : n ≤ 1000000) (hok : ∀ x ∈ vs, x.ok) : OwnT w (.slice (some ⟨X, 0, none⟩) n n) vs :=
  ⟨⟨cellsL_len vs, .inr ⟨X, n, _, by rw [hn], Nat.zero_le _, h, by omega, by unfold maxLen; omega, by rw [List.size_toArray, cellsL_len, hn], List.take_of_length_le (by rw [cellsL_len]; exact Nat.le_refl _)⟩⟩, hok⟩
theorem build_ch {a : Operand → Value} {ob : Oper} {x y : Operand} (ht : Int) (h : List Int) (hl : h.length = 32) (ho : ob.op = .build TC #[(0, x), (1, y)]) (hx : a x = .int .i64 ht) (hy : a y = .agg (b8 h).toArray) (W : World) :
    (execOp a ob).run Try.prog W = .ok (.value (.agg (ccl ht h (.slice none 0 0)).toArray)) W := by
  obtain ⟨x0, x1, x2, x3, x4, x5, x6, x7, x8, x9, x10, x11, x12, x13, x14, x15, x16, x17, x18, x19, x20, x21, x22, x23, x24, x25, x26, x27, x28, x29, x30, x31, rfl⟩ := list32 h hl
  unfold execOp
  rw [ho]
  simp only [List.map_toArray, List.map_cons, List.map_nil, hx, hy]
  kernel_rfl
/-- What a func returns that keeps both results in rows. -/
theorem retRows {P : Program} {w : World} {g k : Nat} {T U : TypeId} {cs ds : List Value} (hg : At w g T cs) (hk : At w k U ds) {fn : Func} {p q : Tmp} {ty tz : TypeId} (h : fn.results = #[.cell p ty, .cell q tz]) (tmps : Array Value) (hp : tmps.getD p undef = .pointer (some ⟨g, 0, none⟩)) (hq : tmps.getD q undef = .pointer (some ⟨k, 0, none⟩))
    (d e : TypeDesc) (n m : Nat) (hu : P.underlying ty = some d) (hd : (match d with | .struct _ | .array _ _ => true | _ => false) = true) (hi : (P.info? ty).map (·.size) = some n) (hn : cs.length = n)
    (hu2 : P.underlying tz = some e) (hd2 : (match e with | .struct _ | .array _ _ => true | _ => false) = true) (hi2 : (P.info? tz).map (·.size) = some m) (hm : ds.length = m) :
    (results fn tmps).run P w = .ok (.tuple #[.agg cs.toArray, .agg ds.toArray]) w := by
  have hp' : tmps[p]?.getD undef = .pointer (some ⟨g, 0, none⟩) := by simpa using hp
  have hq' : tmps[q]?.getD undef = .pointer (some ⟨k, 0, none⟩) := by simpa using hq
  have l1 := run_loadVar_row (P := P) w g T ty cs.toArray (0, 0) d hg hu hd (by rw [hi, ← hn]; simp)
  have l2 := run_loadVar_row (P := P) w k U tz ds.toArray (0, 0) e hk hu2 hd2 (by rw [hi2, ← hm]; simp)
  simp [results, h, hp', hq', asAddr, l1, l2]
/-- What Decode tells. -/
def CDP (w : World) (bs : List Int) (e : Ending) (w' : World) : Prop :=
  ∃ va vn vc, e = .returned (.tuple #[.agg (ccl (dht bs) (dhh bs) (.slice va vn vc)).toArray, .agg #[.int .i64 (cE bs).1, .int .i64 (cE bs).2]]) ∧ OwnT w' (.slice va vn vc) (dvs bs) ∧ NewB w (.slice va vn vc) ∧ Below w.heap.size w w'
theorem cd_bad {w w' : World} {bs : List Int} {e : Ending} {x y : Int} (hE : cE bs = (x, y)) (hx : x ≠ 0) (he : e = .returned (.tuple #[.agg zcm.toArray, .agg (f2 x y).toArray])) (hb : Below w.heap.size w w') : CDP w bs e w' := by
  have h0 : ¬ (cE bs).1 = 0 := by rw [hE]; exact hx
  unfold CDP dht dhh dvs
  rw [if_neg h0, if_neg h0, if_neg h0, hE]
  exact ⟨none, 0, 0, he, OwnT.nil _, fun k hk => by simp [Value.ownBlock] at hk, hb⟩
theorem xc {w U : World} {o1 o2 : Thg} {l : List Thg} {X M m : Nat} {HT : Int} {HH : List Int} {hl : HH.length = 32} (h : Bag w U (o1 :: o2 :: box TC X (ccl HT HH (.slice (some ⟨M, 0, none⟩) m m)) :: l)) : U.cell? ⟨X, 33, none⟩ = some (.slice (some ⟨M, 0, none⟩) m m) :=
  (h.drop.drop.head.cell 33).trans (ccl_33 _ _ _ hl)
def MidD (w : World) (bs : List Int) (s0 : St) (HT : Int) (HH : List Int) (R : Nat) (ra : Option Addr) (rc X M m A0 A1 : Nat) (i : Value) (U : World) : Prop :=
  ∃ k : Nat, k ≤ m ∧ i = .int .i64 (k : Int) ∧ Bag w U [rdS R ra rc bs (itC bs s0 k).2, box TV M (cellsL ((itC bs s0 k).1 ++ List.replicate (m - k) v0)), box TC X (ccl HT HH (.slice (some ⟨M, 0, none⟩) m m)), box FT A1 (f2 0 0), box TC A0 zcm]
set_option maxRecDepth 20000 in
set_option maxHeartbeats 16000000 in
theorem decode_any (w : World) (b : Option Addr) (n c : Nat) (bs : List Int) (hb : BIn w (.slice b n c) bs) (hr : rng bs) (hn : n ≤ 1099511627776) :
    Calls Try.prog 75 #[.slice b n c] w (CDP w bs) := by
  have hnl : n = bs.length := by obtain ⟨_, _, e, _⟩ := hb; cases e; rfl
  obtain ⟨HT, eHT⟩ : ∃ x, cht bs = x := ⟨_, rfl⟩
  obtain ⟨HH, eHH⟩ : ∃ x, chh bs = x := ⟨_, rfl⟩
  obtain ⟨N, eN⟩ : ∃ x, cnum bs = x := ⟨_, rfl⟩
  obtain ⟨T, eT⟩ : ∃ x, cat' bs = x := ⟨_, rfl⟩
  obtain ⟨t1, et1⟩ : ∃ x, q1 bs = x := ⟨_, rfl⟩
  obtain ⟨t2, et2⟩ : ∃ x, q2 bs = x := ⟨_, rfl⟩
  obtain ⟨s0, es0⟩ : ∃ x, q3 bs = x := ⟨_, rfl⟩
  obtain ⟨RE, eRE⟩ : ∃ x, restS bs t2 = x := ⟨_, rfl⟩
  have hT := cat_ok hr
  have hNN := cnum_ok hr
  have hHL : HH.length = 32 := by rw [← eHH]; exact rH_len _ _
  rw [eT] at hT
  rw [eN] at hNN
  have hTe : (n : Int) - RE = T := by rw [hnl, ← eT, ← eRE, ← et2]; rfl
  have hwr : IntKind.i64.wrap ((n : Int) - RE) = T := by
    rw [hTe]
    simp [IntKind.wrap, IntKind.bits, IntKind.signed]
    omega
  have hE : cE bs = if 64 < N then (4, T) else if (endS bs (itC bs s0 N.toNat).2).1 ≠ 0 then endS bs (itC bs s0 N.toNat).2 else if chk HT (itC bs s0 N.toNat).1 ≠ 0 then (chk HT (itC bs s0 N.toNat).1, 0) else (0, 0) := by
    unfold cE cst cvs
    rw [eN, eT, es0, eHT]
  have HEV := WirS.hide (show cvs bs = (itC bs s0 N.toNat).1 by unfold cvs; rw [eN, es0])
  obtain ⟨A0, eA0⟩ : ∃ A, w.heap.size = A := ⟨_, rfl⟩
  obtain ⟨W1, e1⟩ : ∃ X, X = w.alloc (.cells zcm.toArray TC) := ⟨_, rfl⟩
  obtain ⟨A1, eA1⟩ : ∃ A, W1.heap.size = A := ⟨_, rfl⟩
  obtain ⟨W2, e2⟩ : ∃ X, X = W1.alloc (.cells (f2 0 0).toArray FT) := ⟨_, rfl⟩
  have hb1 : Bag w W1 [box TC A0 zcm] := bag_box (Bag.nil (Below.refl _ _)) eA0.symm (by rw [e1, ← eA0]; exact At.new _ _ _) (by rw [e1]; exact Below.alloc (Below.refl _ _) (Nat.le_refl _) _)
  have hb2 : Bag w W2 [box FT A1 (f2 0 0), box TC A0 zcm] := bag_box hb1 eA1.symm (by rw [e2, ← eA1]; exact At.new _ _ _) (by rw [e2]; exact Below.alloc (Below.refl _ _) (Nat.le_refl _) _)
  have HRD := WirS.hide (WirT.newReader_any W2 b n c bs (hb.below hb2.low) hr hn)
  have C0 := WirS.hide (fun (U : World) (l : List Thg) (R : Nat) (ra : Option Addr) (rc : Nat) (h : Bag w U (rdS R ra rc bs (.inr 0) :: l)) => show Calls Try.prog 37 #[.pointer (some ⟨R, 0, none⟩)] U (fun e w' => e = .returned (.int .i64 HT) ∧ Bag w w' (rdS R ra rc bs t1 :: l)) from by
    have := s_num h
    rw [show (rN bs (.inr 0)).1 = HT from eHT, show (rN bs (.inr 0)).2 = t1 from et1] at this
    exact this)
  have C1 := WirS.hide (fun (U : World) (l : List Thg) (R : Nat) (ra : Option Addr) (rc : Nat) (h : Bag w U (rdS R ra rc bs t1 :: l)) => show Calls Try.prog 40 #[.pointer (some ⟨R, 0, none⟩)] U (fun e w' => e = .returned (.agg (b8 HH).toArray) ∧ Bag w w' (rdS R ra rc bs t2 :: l)) from by
    have := p_hash h
    rw [show (rO (WirN.zz 32) (WirO.rowO 32 bs) t1).1 = HH from by rw [← eHH, ← et1]; rfl, show (rO (WirN.zz 32) (WirO.rowO 32 bs) t1).2 = t2 from by rw [← et2, ← et1]; rfl] at this
    exact this)
  have C2 := WirS.hide (fun (U : World) (l : List Thg) (R : Nat) (ra : Option Addr) (rc : Nat) (h : Bag w U (rdS R ra rc bs t2 :: l)) => show Calls Try.prog 33 #[.pointer (some ⟨R, 0, none⟩)] U (fun e w' => e = .returned (.int .i64 RE) ∧ Bag w w' (rdS R ra rc bs t2 :: l)) from by
    have := p_rest h
    rw [eRE] at this
    exact this)
  have C3 := WirS.hide (fun (U : World) (l : List Thg) (R : Nat) (ra : Option Addr) (rc : Nat) (h : Bag w U (rdS R ra rc bs t2 :: l)) => show Calls Try.prog 37 #[.pointer (some ⟨R, 0, none⟩)] U (fun e w' => e = .returned (.int .i64 N) ∧ Bag w w' (rdS R ra rc bs s0 :: l)) from by
    have := s_num h
    rw [show (rN bs t2).1 = N from by rw [← eN, ← et2]; rfl, show (rN bs t2).2 = s0 from by rw [← es0, ← et2]; rfl] at this
    exact this)
  have HDV := WirS.hide (And.intro eHT eHH)
  have H2 := WirS.hide hb2
  have E1 := WirS.hide e1
  have E2 := WirS.hide e2
  have HR := WirS.hide hr
  have HD := WirS.hide hE
  have HHL := WirS.hide hHL
  have HNL := WirS.hide hnl
  have HWR := WirS.hide hwr
  clear hb hr hnl hb1 hb2 e1 e2 eHT eHH eN eT et1 et2 es0 eRE hTe hwr hE hHL
  go_enter Try.func75, Try.ntmps75
  go_upto_region 0 with fail
  refine wp_region_lit ?_
  refine sV (.pointer (some ⟨w.heap.size, 0, none⟩)) (w.alloc (.cells zcm.toArray TC)) (by kernel_rfl) (by kernel_rfl) ?_
  simp only [Act.put, List.setIfInBounds_toArray, List.set_cons_succ, List.set_cons_zero]
  rw [← E1.out, eA0]
  refine sV (.pointer (some ⟨W1.heap.size, 0, none⟩)) (W1.alloc (.cells (f2 0 0).toArray FT)) (by kernel_rfl) (by kernel_rfl) ?_
  simp only [Act.put, List.setIfInBounds_toArray, List.set_cons_succ, List.set_cons_zero]
  rw [← E2.out, eA1]
  clear E1 E2 eA0 eA1
  go_upto_region 2 with ((go_at_call 30; refine (HRD.out).mono ?_; rintro e u2 ⟨R, ra, rc, rfl, hR, hs, hnw, hb2⟩; have H3 := WirS.hide (bag_rdS H2.out hR hs hnw hb2); clear hR hs hnw hb2 H2 HRD))
  refine wp_region_lit ?_
  refine sV (.pointer (some ⟨R, 0, none⟩)) (u2) (by kernel_rfl) (by kernel_rfl) ?_
  simp only [Act.put, List.setIfInBounds_toArray, List.set_cons_succ, List.set_cons_zero]
  refine sC (R := fun w' => Bag w w' [rdS R ra rc bs t1, box FT A1 (f2 0 0), box TC A0 zcm]) (v := .int .i64 HT) (by kernel_rfl) (by kernel_rfl) (C0.out _ _ _ _ _ H3.out) ?_
  rintro u3 hb3
  simp only [Act.put, List.setIfInBounds_toArray, List.set_cons_succ, List.set_cons_zero]
  have H4 := WirS.hide hb3
  clear hb3 H3
  refine sV (.pointer (some ⟨R, 0, none⟩)) (u3) (by kernel_rfl) (by kernel_rfl) ?_
  simp only [Act.put, List.setIfInBounds_toArray, List.set_cons_succ, List.set_cons_zero]
  refine sC (R := fun w' => Bag w w' [rdS R ra rc bs t2, box FT A1 (f2 0 0), box TC A0 zcm]) (v := .agg (b8 HH).toArray) (by kernel_rfl) (by kernel_rfl) (C1.out _ _ _ _ _ H4.out) ?_
  rintro u4 hb4
  simp only [Act.put, List.setIfInBounds_toArray, List.set_cons_succ, List.set_cons_zero]
  have H5 := WirS.hide hb4
  clear hb4 H4
  refine sV (.agg (ccl HT HH (.slice none 0 0)).toArray) u4 (by kernel_rfl) (build_ch (x := .tmp 14) (y := .tmp 16) HT HH HHL.out (by kernel_rfl) (by kernel_rfl) (by kernel_rfl) u4) ?_
  simp only [Act.put, List.setIfInBounds_toArray, List.set_cons_succ, List.set_cons_zero]
  refine sV (.pointer (some ⟨u4.heap.size, 0, none⟩)) (u4.alloc (.cells zcm.toArray TC)) (by kernel_rfl) (by kernel_rfl) ?_
  simp only [Act.put, List.setIfInBounds_toArray, List.set_cons_succ, List.set_cons_zero]
  obtain ⟨X, eX⟩ : ∃ A, u4.heap.size = A := ⟨_, rfl⟩
  have hb6 := bag_box (T := TC) (cs := zcm) (X := X) H5.out eX.symm (w' := u4.alloc (.cells zcm.toArray TC)) (by rw [← eX]; exact At.new _ _ _) (Below.alloc (Below.refl _ _) (Nat.le_refl _) _)
  rw [eX]
  clear eX H5
  generalize World.alloc u4 _ = u5 at *
  refine stepStore (by rfl) _ _ _ (by rfl) X (ccl HT HH (.slice none 0 0)) (by kernel_rfl) (by kernel_rfl) hb6.head 34 (by kernel_rfl) (by rfl) (ccl_len _ _ _ HHL.out) (one_ccl _ _ _ _ _) ?_
  simp only [Act.put]
  have H6 := WirS.hide (bag_row hb6 (ccl HT HH (.slice none 0 0))).swap
  clear hb6
  generalize World.setRow u5 X _ = u6 at *
  go_upto_region 3 with fail
  refine wp_region_lit ?_
  refine sV (.slice b n c) (u6) (by kernel_rfl) (by kernel_rfl) ?_
  simp only [Act.put, List.setIfInBounds_toArray, List.set_cons_succ, List.set_cons_zero]
  refine sV (.int .i64 (n : Int)) (u6) (by kernel_rfl) (by kernel_rfl) ?_
  simp only [Act.put, List.setIfInBounds_toArray, List.set_cons_succ, List.set_cons_zero]
  refine sV (.pointer (some ⟨R, 0, none⟩)) (u6) (by kernel_rfl) (by kernel_rfl) ?_
  simp only [Act.put, List.setIfInBounds_toArray, List.set_cons_succ, List.set_cons_zero]
  refine sC (R := fun w' => Bag w w' [rdS R ra rc bs t2, box TC X (ccl HT HH (.slice none 0 0)), box FT A1 (f2 0 0), box TC A0 zcm]) (v := .int .i64 RE) (by kernel_rfl) (by kernel_rfl) (C2.out _ _ _ _ _ H6.out) ?_
  rintro u7 hb7
  simp only [Act.put, List.setIfInBounds_toArray, List.set_cons_succ, List.set_cons_zero]
  have H7 := WirS.hide hb7
  clear hb7 H6
  refine sV (.int .i64 (IntKind.i64.wrap ((n : Int) - RE))) u7 (by kernel_rfl) (by kernel_rfl) ?_
  simp only [Act.put, List.setIfInBounds_toArray, List.set_cons_succ, List.set_cons_zero]
  rw [HWR.out]
  go_upto_region 4 with fail
  refine wp_region_lit ?_
  refine sV (.pointer (some ⟨R, 0, none⟩)) (u7) (by kernel_rfl) (by kernel_rfl) ?_
  simp only [Act.put, List.setIfInBounds_toArray, List.set_cons_succ, List.set_cons_zero]
  refine sC (R := fun w' => Bag w w' [rdS R ra rc bs s0, box TC X (ccl HT HH (.slice none 0 0)), box FT A1 (f2 0 0), box TC A0 zcm]) (v := .int .i64 N) (by kernel_rfl) (by kernel_rfl) (C3.out _ _ _ _ _ H7.out) ?_
  rintro u8 hb8
  simp only [Act.put, List.setIfInBounds_toArray, List.set_cons_succ, List.set_cons_zero]
  have H8 := WirS.hide hb8
  clear hb8 H7
  by_cases h64 : 64 < N
  · have HD2 := WirS.hide (show cE bs = (4, T) by rw [HD.out, if_pos h64])
    have d1 : decide (64 < N) = true := by simpa using h64
    clear h64
    go_upto_region 6 with fail
    refine wp_region_lit ?_
    refine sV (.agg zcm.toArray) (u8) (by kernel_rfl) (by kernel_rfl) ?_
    simp only [Act.put, List.setIfInBounds_toArray, List.set_cons_succ, List.set_cons_zero]
    refine sV (.int .i64 T) (u8) (by kernel_rfl) (by kernel_rfl) ?_
    simp only [Act.put, List.setIfInBounds_toArray, List.set_cons_succ, List.set_cons_zero]
    refine sV (.agg (f2 4 T).toArray) (u8) (by kernel_rfl) (by kernel_rfl) ?_
    simp only [Act.put, List.setIfInBounds_toArray, List.set_cons_succ, List.set_cons_zero]
    have H9 := WirS.hide (at4 H8.out)
    clear H8
    refine stepStore (by rfl) _ _ _ (by rfl) A0 zcm (by kernel_rfl) (by kernel_rfl) H9.out.head 34 (by kernel_rfl) (by rfl) (by rfl) (one_ccl _ _ _ _ _) ?_
    simp only [Act.put]
    have HA := WirS.hide (at4 (bag_row H9.out zcm))
    clear H9
    generalize World.setRow u8 A0 _ = y1 at *
    refine stepStore (by rfl) _ _ _ (by rfl) A1 (f2 4 T) (by kernel_rfl) (by kernel_rfl) HA.out.head 2 (by kernel_rfl) (by rfl) (by rfl) (by kernel_rfl) ?_
    simp only [Act.put]
    have HF := WirS.hide (bag_row HA.out (f2 4 T))
    clear HA
    generalize World.setRow y1 A1 _ = y2 at *
    go_wp2_with fail
    refine bodyPost_ret (retRows HF.out.drop.head HF.out.head Try.results75 _ (by rfl) (by rfl) _ _ 34 2 UC rfl (by kernel_rfl) (by rfl) Try.underlying55 rfl (by kernel_rfl) (by rfl)) rfl ?_
    exact cd_bad HD2.out (by decide) rfl HF.out.low
  have d1 : decide (64 < N) = false := by simpa using h64
  obtain ⟨m, rfl⟩ : ∃ m : Nat, N = (m : Int) := ⟨N.toNat, by omega⟩
  have HD2 := WirS.hide (show cE bs = if (endS bs (itC bs s0 m).2).1 ≠ 0 then endS bs (itC bs s0 m).2 else if chk HT (itC bs s0 m).1 ≠ 0 then (chk HT (itC bs s0 m).1, 0) else (0, 0) by rw [HD.out, if_neg h64, Int.toNat_natCast])
  rw [Int.toNat_natCast] at HEV
  clear HD
  have hm64 : m ≤ 64 := by omega
  have e64 : ¬ (64 : Int) < (m : Int) := h64
  clear h64 hT hNN
  go_upto_region 7 with fail
  refine wp_region_lit ?_
  refine sV (.int .i64 (m : Int)) (u8) (by kernel_rfl) (by kernel_rfl) ?_
  simp only [Act.put, List.setIfInBounds_toArray, List.set_cons_succ, List.set_cons_zero]
  refine sV (.slice (some ⟨u8.heap.size, 0, none⟩) m m) (u8.alloc (.cells (cellsL (List.replicate m v0)).toArray TV)) (by kernel_rfl) (mkT _ _ _ _ m (by rfl) (by kernel_rfl) (by kernel_rfl) (by omega) u8) ?_
  simp only [Act.put, List.setIfInBounds_toArray, List.set_cons_succ, List.set_cons_zero]
  obtain ⟨M, eM⟩ : ∃ A, u8.heap.size = A := ⟨_, rfl⟩
  have hb9 := bag_box (T := TV) (cs := cellsL (List.replicate m v0)) (X := M) H8.out eM.symm (w' := u8.alloc (.cells (cellsL (List.replicate m v0)).toArray TV)) (by rw [← eM]; exact At.new _ _ _) (Below.alloc (Below.refl _ _) (Nat.le_refl _) _)
  rw [eM]
  clear eM H8
  generalize World.alloc u8 _ = u9 at *
  have H9 := WirS.hide (at3 hb9)
  clear hb9
  refine sV (.pointer (some ⟨X, 33, none⟩)) (u9) (by kernel_rfl) (by kernel_rfl) ?_
  simp only [Act.put, List.setIfInBounds_toArray, List.set_cons_succ, List.set_cons_zero]
  refine sSl (x := .tmp 32) (y := .tmp 31) (by kernel_rfl) (by kernel_rfl) X 33 (some ⟨M, 0, none⟩) m m _ (by kernel_rfl) (by kernel_rfl) (H9.out.head.cell 33) (by rw [ccl_33 _ _ _ HHL.out]; rfl) (H9.out.head.frozen 33) ?_
  have hb10 := bag_set H9.out 33 (.slice (some ⟨M, 0, none⟩) m m)
  rw [ccl_set _ _ _ _ HHL.out] at hb10
  try simp only [Act.put]
  generalize World.setCell u9 _ _ = y1 at *
  have H10 : Hid (Bag w y1 [rdS R ra rc bs s0, box TV M (cellsL (List.replicate m v0)), box TC X (ccl HT HH (.slice (some ⟨M, 0, none⟩) m m)), box FT A1 (f2 0 0), box TC A0 zcm]) := WirS.hide ((at3 (at3 hb10)).swap)
  clear hb10 H9
  have k33 : y1.cell? ⟨X, 33, none⟩ = some (.slice (some ⟨M, 0, none⟩) m m) := xc (hl := HHL.out) H10.out
  go_wp2_with fail
  go_loopw [36] (fun i wr => MidD w bs s0 HT HH R ra rc X M m A0 A1 i wr) (fun i _ => m - (intOf i).toNat)
  case atStart => exact ⟨0, Nat.zero_le _, rfl, H10.out⟩
  case round =>
    clear H10 k33
    obtain ⟨k, hk, rfl, hB⟩ := hrel
    by_cases hlt : k < m
    · have hkl : (k : Int) < (m : Int) := by omega
      obtain ⟨q, hq⟩ : ∃ q, m - k = q + 1 := ⟨m - k - 1, by omega⟩
      rw [hq] at hB
      obtain ⟨ls, els⟩ : ∃ y, (itC bs s0 k).1 = y := ⟨_, rfl⟩
      obtain ⟨sk, esk⟩ : ∃ y, (itC bs s0 k).2 = y := ⟨_, rfl⟩
      obtain ⟨pn, epn⟩ : ∃ y, (rN bs sk).1 = y := ⟨_, rfl⟩
      obtain ⟨s1, es1⟩ : ∃ y, (rN bs sk).2 = y := ⟨_, rfl⟩
      obtain ⟨wn, ewn⟩ : ∃ y, (rW bs s1).1 = y := ⟨_, rfl⟩
      obtain ⟨s2, es2⟩ : ∃ y, (rW bs s1).2 = y := ⟨_, rfl⟩
      have HIT := WirS.hide (show itC bs s0 (k + 1) = (ls ++ [⟨pn, wn⟩], s2) by rw [itC, els, esk, epn, es1, ewn, es2])
      have HLS := WirS.hide (show ls.length = k by rw [← els]; exact itC_len bs s0 k)
      rw [els, esk] at hB
      have HC1 := WirS.hide (fun (U : World) (l : List Thg) (h : Bag w U (rdS R ra rc bs sk :: l)) => show Calls Try.prog 37 #[.pointer (some ⟨R, 0, none⟩)] U (fun e w' => e = .returned (.int .i64 pn) ∧ Bag w w' (rdS R ra rc bs s1 :: l)) from by
        have := s_num h
        rw [epn, es1] at this
        exact this)
      have HC2 := WirS.hide (fun (U : World) (l : List Thg) (h : Bag w U (rdS R ra rc bs s1 :: l)) => show Calls Try.prog 42 #[.pointer (some ⟨R, 0, none⟩)] U (fun e w' => e = .returned (.int .u64 wn) ∧ Bag w w' (rdS R ra rc bs s2 :: l)) from by
        have := p_word h
        rw [show (rO 0 (WirJ.wordO bs) s1).1 = wn from ewn, show (rO 0 (WirJ.wordO bs) s1).2 = s2 from es2] at this
        exact this)
      have xc : ∀ {U : World} {o1 o2 : Thg} {l : List Thg}, Bag w U (o1 :: o2 :: box TC X (ccl HT HH (.slice (some ⟨M, 0, none⟩) m m)) :: l) → U.cell? ⟨X, 33, none⟩ = some (.slice (some ⟨M, 0, none⟩) m m) := fun h => xc (hl := HHL.out) h
      have HD0 := WirS.hide (hB.more (below_drewN (Below.refl _ wr) 1))
      have HQ := WirS.hide hq
      change Hid (Bag w wr.drew _) at HD0
      clear hB hq els esk epn es1 ewn es2
      go_upto_region 11 with fail
      refine wp_region_noPanic ?_
      refine wp_region_held_drew (S := (fun w' : World => w'.cell? ⟨X, 33, none⟩ = some (.slice (some ⟨M, 0, none⟩) m m))) (by kernel_rfl) (xc HD0.out) (fun hHeld => ?_)
      generalize World.drew wr = wd at *
      refine' wpAnyH_take (i := 0) (oi := _) (v := .pointer (some ⟨X, 33, none⟩)) rfl (by kernel_rfl) (by kernel_rfl) (by kernel_rfl) (fun _ _ _ h => h) (Or.inl ⟨by kernel_rfl, ?hy0⟩) (by assumption) ?rest0
      case hy0 =>
        intro W _
        kernel_rfl
      case rest0 =>
      try simp only [List.getElem_toArray, List.getElem_cons_zero, Act.put, List.setIfInBounds_toArray, List.set_cons_zero, List.set_cons_succ]
      refine' wpAnyH_take (i := 1) (oi := _) (v := _) rfl (by kernel_rfl) (by kernel_rfl) (by kernel_rfl) (fun _ _ _ h => h) (Or.inl ⟨by kernel_rfl, ?hy1⟩) (by assumption) ?rest1
      case hy1 =>
        intro w hSw
        try dsimp only at hSw
        go_simp
        try with_reducible rfl
      case rest1 =>
      try simp only [List.getElem_toArray, List.getElem_cons_succ, List.getElem_cons_zero, Act.put, List.setIfInBounds_toArray, List.set_cons_zero, List.set_cons_succ]
      refine' wpAnyH_take (i := 2) (oi := _) (v := .int .i64 (k : Int)) rfl (by kernel_rfl) (by kernel_rfl) (by kernel_rfl) (fun _ _ _ h => h) (Or.inl ⟨by kernel_rfl, ?hy2⟩) (by assumption) ?rest2
      case hy2 =>
        intro W _
        kernel_rfl
      case rest2 =>
      try simp only [List.getElem_toArray, List.getElem_cons_succ, List.getElem_cons_zero, Act.put, List.setIfInBounds_toArray, List.set_cons_zero, List.set_cons_succ]
      refine' wpAnyH_take (i := 3) (oi := _) (v := .pointer (some ⟨R, 0, none⟩)) rfl (by kernel_rfl) (by kernel_rfl) (by kernel_rfl) (fun _ _ _ h => h) (Or.inl ⟨by kernel_rfl, ?hy3⟩) (by assumption) ?rest3
      case hy3 =>
        intro W _
        kernel_rfl
      case rest3 =>
      try simp only [List.getElem_toArray, List.getElem_cons_succ, List.getElem_cons_zero, Act.put, List.setIfInBounds_toArray, List.set_cons_zero, List.set_cons_succ]
      refine' wpAnyH_take (i := 5) (oi := _) (v := .pointer (some ⟨R, 0, none⟩)) rfl (by kernel_rfl) (by kernel_rfl) (by kernel_rfl) (fun _ _ _ h => h) (Or.inl ⟨by kernel_rfl, ?hy5⟩) (by assumption) ?rest5
      case hy5 =>
        intro W _
        kernel_rfl
      case rest5 =>
      try simp only [List.getElem_toArray, List.getElem_cons_succ, List.getElem_cons_zero, Act.put, List.setIfInBounds_toArray, List.set_cons_zero, List.set_cons_succ]
      refine wpAnyH_ready (rs := [4]) (by kernel_rfl) (by simp) ?_
      refine AllReadyH.cons rfl (fun K hK => ?_) AllReadyH.nil
      rw [if_pos (by kernel_rfl)]
      refine stepCallH (v := .int .i64 pn) (R := fun w' => Bag w w' (rdS R ra rc bs s1 :: [box TV M (cellsL (ls ++ List.replicate (q + 1) v0)), box TC X (ccl HT HH (.slice (some ⟨M, 0, none⟩) m m)), box FT A1 (f2 0 0), box TC A0 zcm])) (by kernel_rfl) (HC1.out _ _ HD0.out) ?_
      rintro z1 hz1
      try simp only [List.getElem_toArray, List.getElem_cons_succ, List.getElem_cons_zero, Act.put, List.setIfInBounds_toArray, List.set_cons_zero, List.set_cons_succ]
      have HD1 := WirS.hide hz1
      clear hz1
      refine hK.out _ _ (xc HD1.out) (fun hHeld => ?_)
      clear hK K
      refine wpAnyH_ready (rs := [6]) (by kernel_rfl) (by simp) ?_
      refine AllReadyH.cons rfl (fun K hK => ?_) AllReadyH.nil
      rw [if_pos (by kernel_rfl)]
      refine stepCallH (v := .int .u64 wn) (R := fun w' => Bag w w' (rdS R ra rc bs s2 :: [box TV M (cellsL (ls ++ List.replicate (q + 1) v0)), box TC X (ccl HT HH (.slice (some ⟨M, 0, none⟩) m m)), box FT A1 (f2 0 0), box TC A0 zcm])) (by kernel_rfl) (HC2.out _ _ HD1.out) ?_
      rintro z2 hz2
      try simp only [List.getElem_toArray, List.getElem_cons_succ, List.getElem_cons_zero, Act.put, List.setIfInBounds_toArray, List.set_cons_zero, List.set_cons_succ]
      have HD2 := WirS.hide hz2
      clear hz2 HD1
      refine hK.out _ _ (xc HD2.out) (fun hHeld => ?_)
      clear hK K
      refine' wpAnyH_take (i := 7) (oi := _) (v := .agg #[.int .i64 pn, .int .u64 wn]) rfl (by kernel_rfl) (by kernel_rfl) (by kernel_rfl) (fun _ _ _ h => h) (Or.inl ⟨by kernel_rfl, ?hy7⟩) (by assumption) ?rest7
      case hy7 =>
        intro W _
        kernel_rfl
      case rest7 =>
      try simp only [List.getElem_toArray, List.getElem_cons_succ, List.getElem_cons_zero, Act.put, List.setIfInBounds_toArray, List.set_cons_zero, List.set_cons_succ]
      refine' wpAnyH_take (i := 8) (oi := _) (v := .pointer (some ⟨M, k * 2, none⟩)) rfl (by kernel_rfl) (by kernel_rfl) (by kernel_rfl) (fun _ _ _ h => h) (Or.inl ⟨by kernel_rfl, ?hy8⟩) (by assumption) ?rest8
      case hy8 =>
        intro W _
        exact ((fun W => op2 _ _ _ _ M m m k rfl (by kernel_rfl) (by kernel_rfl) hlt W)) W
      case rest8 =>
      try simp only [List.getElem_toArray, List.getElem_cons_succ, List.getElem_cons_zero, Act.put, List.setIfInBounds_toArray, List.set_cons_zero, List.set_cons_succ]
      refine wpAnyH_ready (rs := [9]) (by kernel_rfl) (by simp) ?_
      refine AllReadyH.cons rfl (fun K hK => ?_) AllReadyH.nil
      rw [if_pos (by kernel_rfl)]
      have hlen : (cellsL (ls ++ List.replicate (q + 1) v0)).length = (k + (q + 1)) * 2 := by rw [cellsL_len, List.length_append, List.length_replicate, HLS.out]
      refine wp_store_mid TV (.tmp 47) (.tmp 46) (by kernel_rfl) M (k * 2) #[.int .i64 pn, .int .u64 wn] (by kernel_rfl) (by kernel_rfl) (WirAB.there_at HD2.out.swap.head (k * 2) 2 (by rw [hlen]; omega)) (by kernel_rfl) (by kernel_rfl) ?_
      have HB3 := WirS.hide (bag_sets HD2.out.swap (k * 2) ((⟨pn, wn⟩ : Vt)).cells (by rw [hlen, cells_len]; omega))
      have hput := cellsL_put ls ⟨pn, wn⟩ q
      rw [HLS.out] at hput
      rw [hput] at HB3
      change K _ (z2.setCells M (k * 2) (⟨pn, wn⟩ : Vt).cells)
      refine hK.out _ _ (xc HB3.out.swap) (fun hHeld => ?_)
      clear hK K
      try simp only [Act.put]
      generalize World.setCells z2 M (k * 2) _ = z3 at *
      clear hHeld hlen hput HD2
      refine wpAnyH_done (by kernel_rfl) ?_ _
      refine NoPanic.normal ?_
      go_wp2_with fail
      go_roundw
      case rel =>
        refine ⟨k + 1, by omega, by go_num, ?_⟩
        have := HQ.out
        rw [HIT.out, show m - (k + 1) = q by omega]
        exact HB3.out.swap
      case measure => simp [intOf]; omega
    · obtain rfl : k = m := by omega
      rw [Nat.sub_self, List.replicate_zero, List.append_nil] at hB
      obtain ⟨ls, els⟩ : ∃ y, (itC bs s0 k).1 = y := ⟨_, rfl⟩
      obtain ⟨s1, es1⟩ : ∃ y, (itC bs s0 k).2 = y := ⟨_, rfl⟩
      have hll : ls.length = k := by rw [← els]; exact itC_len bs s0 k
      have hok : ∀ x ∈ ls, x.ok := by rw [← els]; exact itC_ok HR.out s0 k
      rw [els, es1] at hB HD2
      rw [els] at HEV
      obtain ⟨fe, efe⟩ : ∃ y, (endS bs s1).1 = y := ⟨_, rfl⟩
      obtain ⟨fa, efa⟩ : ∃ y, (endS bs s1).2 = y := ⟨_, rfl⟩
      have hend := s_end hB
      rw [efe, efa] at hend
      rw [efe, show endS bs s1 = (fe, fa) by rw [← efe, ← efa]] at HD2
      have HE := WirS.hide hend
      have HLL := WirS.hide hll
      have HOK := WirS.hide hok
      clear hB hend hll hok els es1 efe efa
      go_upto_region 13 with fail
      refine wp_region_lit ?_
      refine sV (.pointer (some ⟨R, 0, none⟩)) (wr) (by kernel_rfl) (by kernel_rfl) ?_
      simp only [Act.put, List.setIfInBounds_toArray, List.set_cons_succ, List.set_cons_zero]
      refine sC (by kernel_rfl) (by kernel_rfl) HE.out ?_
      rintro u1 hb
      simp only [Act.put, List.setIfInBounds_toArray, List.set_cons_succ, List.set_cons_zero]
      refine sV (.pointer (some ⟨u1.heap.size, 0, none⟩)) (u1.alloc (.cells (f2 0 0).toArray FT)) (by kernel_rfl) (by kernel_rfl) ?_
      simp only [Act.put, List.setIfInBounds_toArray, List.set_cons_succ, List.set_cons_zero]
      obtain ⟨F, eF⟩ : ∃ A, u1.heap.size = A := ⟨_, rfl⟩
      have hb5 := bag_box (T := FT) (cs := f2 0 0) (X := F) hb eF.symm (w' := u1.alloc (.cells (f2 0 0).toArray FT)) (by rw [← eF]; exact At.new _ _ _) (Below.alloc (Below.refl _ _) (Nat.le_refl _) _)
      rw [eF]
      clear eF HE hb
      generalize World.alloc u1 _ = x5 at *
      refine stepStore (by rfl) _ _ _ (by rfl) F (f2 fe fa) (by kernel_rfl) (by kernel_rfl) hb5.head 2 (by kernel_rfl) (by rfl) (by rfl) (by kernel_rfl) ?_
      simp only [Act.put]
      have H5 := WirS.hide (bag_row hb5 (f2 fe fa))
      clear hb5
      generalize World.setRow x5 F _ = w5 at *
      have d0 : w5.cell? ⟨F, 0, none⟩ = some (.int .i64 fe) := H5.out.head.cell 0
      by_cases hfe : fe = 0
      · subst hfe
        rw [if_neg (by simp)] at HD2
        have hown : OwnT w5 (.slice (some ⟨M, 0, none⟩) k k) ls := own_at (at3 H5.out).head HLL.out (by omega) HOK.out
        have HCk := WirS.hide (check_any w5 HT HH (some ⟨M, 0, none⟩) k k ls HHL.out hown.vin)
        clear hown
        go_upto_region 16 with fail
        clear d0
        refine wp_region_lit ?_
        refine sL (by kernel_rfl) _ _ (by rfl) _ (by kernel_rfl) (at4 H5.out).head _ _ UC rfl (by kernel_rfl) (by rw [ccl_len _ _ _ HHL.out]) ?_
        simp only [Act.put, List.setIfInBounds_toArray, List.set_cons_succ, List.set_cons_zero]
        refine sC (R := fun w' => Below w5.heap.size w5 w') (by kernel_rfl) (by kernel_rfl) HCk.out ?_
        rintro w6 hb
        simp only [Act.put, List.setIfInBounds_toArray, List.set_cons_succ, List.set_cons_zero]
        have H6 := WirS.hide (H5.out.more hb)
        clear hb H5 HCk
        by_cases hck : chk HT ls = 0
        · rw [if_neg (by rw [hck]; simp)] at HD2
          rw [hck]
          go_upto_region 19 with fail
          refine wp_region_lit ?_
          refine sL (by kernel_rfl) _ _ (by rfl) _ (by kernel_rfl) (at4 H6.out).head _ _ UC rfl (by kernel_rfl) (by rw [ccl_len _ _ _ HHL.out]) ?_
          simp only [Act.put, List.setIfInBounds_toArray, List.set_cons_succ, List.set_cons_zero]
          refine sV (.agg (f2 0 0).toArray) (w6) (by kernel_rfl) (by kernel_rfl) ?_
          simp only [Act.put, List.setIfInBounds_toArray, List.set_cons_succ, List.set_cons_zero]
          have H7 : Hid (Bag w w6 [box TC A0 zcm, box FT F (f2 0 fa), rdS R ra rc bs s1, box TV M (cellsL ls), box TC X (ccl HT HH (.slice (some ⟨M, 0, none⟩) k k)), box FT A1 (f2 0 0)]) := WirS.hide (H6.out.perm (show (([box FT F (f2 0 fa), rdS R ra rc bs s1, box TV M (cellsL ls), box TC X (ccl HT HH (.slice (some ⟨M, 0, none⟩) k k)), box FT A1 (f2 0 0)] : List Thg) ++ [box TC A0 zcm]).Perm ([box TC A0 zcm] ++ [box FT F (f2 0 fa), rdS R ra rc bs s1, box TV M (cellsL ls), box TC X (ccl HT HH (.slice (some ⟨M, 0, none⟩) k k)), box FT A1 (f2 0 0)]) from List.perm_append_comm))
          clear H6
          refine stepStore (by rfl) _ _ _ (by rfl) A0 (ccl HT HH (.slice (some ⟨M, 0, none⟩) k k)) (by kernel_rfl) (by kernel_rfl) H7.out.head 34 (by kernel_rfl) (by rfl) (ccl_len _ _ _ HHL.out) (one_ccl _ _ _ _ _) ?_
          simp only [Act.put]
          have h8 := bag_row H7.out (ccl HT HH (.slice (some ⟨M, 0, none⟩) k k))
          generalize World.setRow w6 A0 _ = y1 at *
          have H8 : Hid (Bag w y1 [box FT A1 (f2 0 0), box TC A0 (ccl HT HH (.slice (some ⟨M, 0, none⟩) k k)), box FT F (f2 0 fa), rdS R ra rc bs s1, box TV M (cellsL ls), box TC X (ccl HT HH (.slice (some ⟨M, 0, none⟩) k k))]) := WirS.hide (h8.perm (show (([box TC A0 (ccl HT HH (.slice (some ⟨M, 0, none⟩) k k)), box FT F (f2 0 fa), rdS R ra rc bs s1, box TV M (cellsL ls), box TC X (ccl HT HH (.slice (some ⟨M, 0, none⟩) k k))] : List Thg) ++ [box FT A1 (f2 0 0)]).Perm ([box FT A1 (f2 0 0)] ++ [box TC A0 (ccl HT HH (.slice (some ⟨M, 0, none⟩) k k)), box FT F (f2 0 fa), rdS R ra rc bs s1, box TV M (cellsL ls), box TC X (ccl HT HH (.slice (some ⟨M, 0, none⟩) k k))]) from List.perm_append_comm))
          clear H7 h8
          refine stepStore (by rfl) _ _ _ (by rfl) A1 (f2 0 0) (by kernel_rfl) (by kernel_rfl) H8.out.head 2 (by kernel_rfl) (by rfl) (by rfl) (by kernel_rfl) ?_
          simp only [Act.put]
          have HF := WirS.hide (bag_row H8.out (f2 0 0))
          clear H8
          generalize World.setRow y1 A1 _ = y2 at *
          go_wp2_with fail
          refine bodyPost_ret (retRows HF.out.drop.head HF.out.head Try.results75 _ (by rfl) (by rfl) _ _ 34 2 UC rfl (by kernel_rfl) (ccl_len _ _ _ HHL.out) Try.underlying55 rfl (by kernel_rfl) (by rfl)) rfl ?_
          have h0 : (cE bs).1 = 0 := by rw [HD2.out]
          have hm : At y2 M TV (cellsL ls) := (HF.out.all (box TV M (cellsL ls)) (by simp)).1
          have hmn := (HF.out.all (box TV M (cellsL ls)) (by simp)).2 M rfl
          unfold CDP dht dhh dvs
          rw [if_pos h0, if_pos h0, if_pos h0, HD2.out, HDV.out.1, HDV.out.2, HEV.out]
          exact ⟨_, _, _, rfl, own_at hm HLL.out (by omega) HOK.out, fun q hq => by simp [Value.ownBlock] at hq; omega, HF.out.low⟩
        · obtain ⟨cd, hcd⟩ : ∃ cd, chk HT ls = cd := ⟨_, rfl⟩
          rw [if_pos (by simpa using hck), hcd] at HD2
          rw [hcd] at hck ⊢
          have HCD := WirS.hide hck
          have hn0 : (cd == 0) = false := by simpa using hck
          have hn1 : (cd != 0) = true := by simpa using hck
          clear hcd hck
          go_upto_region 18 with fail
          refine wp_region_lit ?_
          refine sV (.agg zcm.toArray) (w6) (by kernel_rfl) (by kernel_rfl) ?_
          simp only [Act.put, List.setIfInBounds_toArray, List.set_cons_succ, List.set_cons_zero]
          refine sV (.int .i64 cd) (w6) (by kernel_rfl) (by kernel_rfl) ?_
          simp only [Act.put, List.setIfInBounds_toArray, List.set_cons_succ, List.set_cons_zero]
          refine sV (.agg (f2 cd 0).toArray) (w6) (by kernel_rfl) (by kernel_rfl) ?_
          simp only [Act.put, List.setIfInBounds_toArray, List.set_cons_succ, List.set_cons_zero]
          have H7 : Hid (Bag w w6 [box TC A0 zcm, box FT F (f2 0 fa), rdS R ra rc bs s1, box TV M (cellsL ls), box TC X (ccl HT HH (.slice (some ⟨M, 0, none⟩) k k)), box FT A1 (f2 0 0)]) := WirS.hide (H6.out.perm (show (([box FT F (f2 0 fa), rdS R ra rc bs s1, box TV M (cellsL ls), box TC X (ccl HT HH (.slice (some ⟨M, 0, none⟩) k k)), box FT A1 (f2 0 0)] : List Thg) ++ [box TC A0 zcm]).Perm ([box TC A0 zcm] ++ [box FT F (f2 0 fa), rdS R ra rc bs s1, box TV M (cellsL ls), box TC X (ccl HT HH (.slice (some ⟨M, 0, none⟩) k k)), box FT A1 (f2 0 0)]) from List.perm_append_comm))
          clear H6
          refine stepStore (by rfl) _ _ _ (by rfl) A0 zcm (by kernel_rfl) (by kernel_rfl) H7.out.head 34 (by kernel_rfl) (by rfl) (by rfl) (one_ccl _ _ _ _ _) ?_
          simp only [Act.put]
          have h8 := bag_row H7.out zcm
          generalize World.setRow w6 A0 _ = y1 at *
          have H8 : Hid (Bag w y1 [box FT A1 (f2 0 0), box TC A0 zcm, box FT F (f2 0 fa), rdS R ra rc bs s1, box TV M (cellsL ls), box TC X (ccl HT HH (.slice (some ⟨M, 0, none⟩) k k))]) := WirS.hide (h8.perm (show (([box TC A0 zcm, box FT F (f2 0 fa), rdS R ra rc bs s1, box TV M (cellsL ls), box TC X (ccl HT HH (.slice (some ⟨M, 0, none⟩) k k))] : List Thg) ++ [box FT A1 (f2 0 0)]).Perm ([box FT A1 (f2 0 0)] ++ [box TC A0 zcm, box FT F (f2 0 fa), rdS R ra rc bs s1, box TV M (cellsL ls), box TC X (ccl HT HH (.slice (some ⟨M, 0, none⟩) k k))]) from List.perm_append_comm))
          clear H7 h8
          refine stepStore (by rfl) _ _ _ (by rfl) A1 (f2 cd 0) (by kernel_rfl) (by kernel_rfl) H8.out.head 2 (by kernel_rfl) (by rfl) (by rfl) (by kernel_rfl) ?_
          simp only [Act.put]
          have HF := WirS.hide (bag_row H8.out (f2 cd 0))
          clear H8
          generalize World.setRow y1 A1 _ = y2 at *
          go_wp2_with fail
          refine bodyPost_ret (retRows HF.out.drop.head HF.out.head Try.results75 _ (by rfl) (by rfl) _ _ 34 2 UC rfl (by kernel_rfl) (by rfl) Try.underlying55 rfl (by kernel_rfl) (by rfl)) rfl ?_
          exact cd_bad HD2.out HCD.out rfl HF.out.low
      · rw [if_pos (by simpa using hfe)] at HD2
        have HFE := WirS.hide hfe
        have hn0 : (fe == 0) = false := by simpa using hfe
        have hn1 : (fe != 0) = true := by simpa using hfe
        clear hfe
        go_upto_region 15 with fail
        clear d0
        have HZ := WirS.hide (show Bag w w5.drew _ from H5.out.more (below_drewN (Below.refl _ w5) 1))
        clear H5
        refine wp_region_noPanic ?_
        refine wp_region_held_drew (S := (fun U : World => U.rangeAt F 0 (f2 fe fa))) (by kernel_rfl) (rangeAt0 HZ.out.head) (fun hHeld => ?_)
        generalize World.drew w5 = wd at *
        refine' wpAnyH_take (i := 0) (oi := _) (v := .agg zcm.toArray) rfl (by kernel_rfl) (by kernel_rfl) (by kernel_rfl) (fun _ _ _ h => h) (Or.inl ⟨by kernel_rfl, ?hy0⟩) (by assumption) ?rest0
        case hy0 =>
          intro W _
          kernel_rfl
        case rest0 =>
        try simp only [List.getElem_toArray, List.getElem_cons_zero, Act.put, List.setIfInBounds_toArray, List.set_cons_zero, List.set_cons_succ]
        refine' wpAnyH_take (i := 1) (oi := _) (v := .agg ((f2 fe fa)).toArray) rfl (by kernel_rfl) (by kernel_rfl) (by kernel_rfl) (fun _ _ _ h => h) (yieldsIf_load_mid (by kernel_rfl) FT (.tmp 9) (by kernel_rfl) F 0 (by kernel_rfl) ((f2 fe fa)) _ (fun _ h => h) Try.underlying55 (by kernel_rfl) ((by rfl))) (by assumption) ?rest1
        case rest1 =>
        try simp only [List.getElem_toArray, List.getElem_cons_succ, List.getElem_cons_zero, Act.put, List.setIfInBounds_toArray, List.set_cons_zero, List.set_cons_succ]
        refine wpAnyH_ready (rs := [2]) (by kernel_rfl) (by simp) ?_
        refine AllReadyH.cons rfl (fun K hK => ?_) AllReadyH.nil
        rw [if_pos (by kernel_rfl)]
        have G1 : Hid (Bag w wd [box TC A0 zcm, box FT F (f2 fe fa), rdS R ra rc bs s1, box TV M (cellsL ls), box TC X (ccl HT HH (.slice (some ⟨M, 0, none⟩) k k)), box FT A1 (f2 0 0)]) := WirS.hide (HZ.out.perm (show (([box FT F (f2 fe fa), rdS R ra rc bs s1, box TV M (cellsL ls), box TC X (ccl HT HH (.slice (some ⟨M, 0, none⟩) k k)), box FT A1 (f2 0 0)] : List Thg) ++ [box TC A0 zcm]).Perm ([box TC A0 zcm] ++ [box FT F (f2 fe fa), rdS R ra rc bs s1, box TV M (cellsL ls), box TC X (ccl HT HH (.slice (some ⟨M, 0, none⟩) k k)), box FT A1 (f2 0 0)]) from List.perm_append_comm))
        clear HZ
        refine wp_store_row TC (.tmp 2) (.tmp 54) (by kernel_rfl) A0 zcm.toArray (by kernel_rfl) (by kernel_rfl) TC zcm.toArray G1.out.head (by kernel_rfl) (by rfl) (one_ccl _ _ _ _ _) ?_
        have G2 := WirS.hide (bag_row G1.out zcm)
        clear G1
        refine hK.out _ _ (rangeAt0 G2.out.drop.head) (fun hHeld => ?_)
        clear hK K
        try simp only [Act.put]
        generalize World.setRow wd A0 _ = y1 at *
        refine wpAnyH_ready (rs := [3]) (by kernel_rfl) (by simp) ?_
        refine AllReadyH.cons rfl (fun K hK => ?_) AllReadyH.nil
        rw [if_pos (by kernel_rfl)]
        have G3 : Hid (Bag w y1 [box FT A1 (f2 0 0), box TC A0 zcm, box FT F (f2 fe fa), rdS R ra rc bs s1, box TV M (cellsL ls), box TC X (ccl HT HH (.slice (some ⟨M, 0, none⟩) k k))]) := WirS.hide (G2.out.perm (show (([box TC A0 zcm, box FT F (f2 fe fa), rdS R ra rc bs s1, box TV M (cellsL ls), box TC X (ccl HT HH (.slice (some ⟨M, 0, none⟩) k k))] : List Thg) ++ [box FT A1 (f2 0 0)]).Perm ([box FT A1 (f2 0 0)] ++ [box TC A0 zcm, box FT F (f2 fe fa), rdS R ra rc bs s1, box TV M (cellsL ls), box TC X (ccl HT HH (.slice (some ⟨M, 0, none⟩) k k))]) from List.perm_append_comm))
        clear G2
        refine wp_store_row FT (.tmp 3) (.tmp 55) (by kernel_rfl) A1 (f2 fe fa).toArray (by kernel_rfl) (by kernel_rfl) FT (f2 0 0).toArray G3.out.head (by kernel_rfl) (by rfl) (by kernel_rfl) ?_
        have HF := WirS.hide (bag_row G3.out (f2 fe fa))
        clear G3
        refine hK.out _ _ (rangeAt0 HF.out.drop.drop.head) (fun hHeld => ?_)
        clear hK K
        try simp only [Act.put]
        generalize World.setRow y1 A1 _ = y2 at *
        clear hHeld
        refine wpAnyH_done (by kernel_rfl) ?_ _
        refine NoPanic.normal ?_
        go_wp2_with fail
        refine bodyPost_ret (retRows HF.out.drop.head HF.out.head Try.results75 _ (by rfl) (by rfl) _ _ 34 2 UC rfl (by kernel_rfl) (by rfl) Try.underlying55 rfl (by kernel_rfl) (by rfl)) rfl ?_
        exact cd_bad HD2.out HFE.out rfl HF.out.low
end CmM
end Go.Proofs.Ythcemghamdmjmaa

