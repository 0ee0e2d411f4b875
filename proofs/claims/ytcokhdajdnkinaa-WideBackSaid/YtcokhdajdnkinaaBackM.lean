/-
  Digits and numbers: what is told as text is read as it was, and how texts stand as numbers do.
-/
import Derived.Test.YtcokhdajdnkinaaWideG
namespace Go.Proofs.Ytcokhdajdnkinaa
open Go.RowKit Go.Shelf
namespace BackM
open WideA WideB WideT WideI WideF WideG

theorem numTo_app (l : List Int) (x : Int) : ∀ k, k ≤ l.length → numTo (l ++ [x]) k = numTo l k
  | 0, _ => rfl
  | k + 1, h => by
    have e : (l ++ [x]).getD k 0 = l.getD k 0 := by
      simp only [List.getD, List.getElem?_append_left (show k < l.length by omega)]
    unfold numTo
    rw [numTo_app l x k (by omega), e]
theorem numOf_snoc (l : List Int) (x : Int) : numOf (l ++ [x]) = numOf l * 10 + (x - 48) := by
  unfold numOf
  rw [List.length_append]
  show numTo (l ++ [x]) l.length * 10 + ((l ++ [x]).getD l.length 0 - 48) = _
  rw [numTo_app l x _ (Nat.le_refl _)]
  simp [List.getD]
theorem numOf_rev (x : Int) (r : List Int) : numOf (x :: r).reverse = numOf r.reverse * 10 + (x - 48) := by
  rw [List.reverse_cons, numOf_snoc]

def Digs (l : List Int) : Prop := ∀ x ∈ l, 48 ≤ x ∧ x ≤ 57

/-- Of digits from the last one on: no zero stands at the front. -/
def trim : List Int → Bool
  | [] => true
  | [x] => decide (x ≠ 48)
  | _ :: y :: r => trim (y :: r)

theorem more_val : ∀ (f : Nat) (V : Int), 0 ≤ V → V < 10 ^ f → numOf (more f V).reverse = V
  | 0, V, h0, h1 => by
    obtain rfl : V = 0 := by simp at h1; omega
    rfl
  | f + 1, V, h0, h1 => by
    by_cases h : V = 0
    · subst h; rw [more_zero]; rfl
    · rw [Int.pow_succ] at h1
      rw [more_succ f V h, numOf_rev, more_val f (V / 10) (by omega) (by omega)]
      omega
theorem more_digs : ∀ (f : Nat) (V : Int), 0 ≤ V → Digs (more f V)
  | 0, V, h0 => by
    unfold more
    split <;> simp [Digs, digs]
  | f + 1, V, h0 => by
    by_cases h : V = 0
    · subst h; rw [more_zero]; simp [Digs]
    · rw [more_succ f V h]
      intro x hx
      rcases List.mem_cons.mp hx with rfl | hx
      · omega
      · exact more_digs f (V / 10) (by omega) x hx
theorem more_nil (f : Nat) (V : Int) (h0 : 0 < V) (h1 : V < 10 ^ f) : more f V ≠ [] := by
  cases f with
  | zero => simp at h1; omega
  | succ f => rw [more_succ f V (by omega)]; simp
theorem trim_cons (x : Int) (l : List Int) (h : l ≠ []) : trim (x :: l) = trim l := by
  cases l with
  | nil => exact absurd rfl h
  | cons y r => rfl
theorem more_trim : ∀ (f : Nat) (V : Int), 0 ≤ V → V < 10 ^ f → trim (more f V) = true
  | 0, V, h0, h1 => by
    obtain rfl : V = 0 := by simp at h1; omega
    rfl
  | f + 1, V, h0, h1 => by
    by_cases h : V = 0
    · subst h; rw [more_zero]; rfl
    · rw [Int.pow_succ] at h1
      rw [more_succ f V h]
      by_cases hz : V / 10 = 0
      · rw [hz, more_zero]
        simp [trim]
        omega
      · rw [trim_cons _ _ (more_nil f _ (by omega) (by omega))]
        exact more_trim f (V / 10) (by omega) (by omega)
theorem val_nonneg : ∀ l : List Int, Digs l → 0 ≤ numOf l.reverse
  | [], _ => by simp [numOf, numTo]
  | x :: r, h => by
    have := val_nonneg r (fun y hy => h y (List.mem_cons_of_mem _ hy))
    have := h x (List.mem_cons_self)
    rw [numOf_rev]
    omega
theorem val_pos : ∀ l : List Int, Digs l → trim l = true → l ≠ [] → 0 < numOf l.reverse
  | [], _, _, h => absurd rfl h
  | [x], h, ht, _ => by
    have := h x (List.mem_cons_self)
    simp [trim] at ht
    rw [numOf_rev]
    simp [numOf, numTo]
    omega
  | x :: y :: r, h, ht, _ => by
    have := val_pos (y :: r) (fun z hz => h z (List.mem_cons_of_mem _ hz)) ht (by simp)
    have := h x (List.mem_cons_self)
    rw [numOf_rev]
    omega
theorem trim_tail (x : Int) (r : List Int) (h : trim (x :: r) = true) : trim r = true := by
  cases r with
  | nil => rfl
  | cons y r => exact h
theorem more_inv : ∀ (f : Nat) (l : List Int), Digs l → trim l = true → l.length ≤ f → more f (numOf l.reverse) = l
  | f, [], _, _, _ => by simp [numOf, numTo, more_zero]
  | 0, x :: r, _, _, h => by simp at h
  | f + 1, x :: r, hd, ht, hl => by
    have hp := val_pos (x :: r) hd ht (by simp)
    have hx := hd x (List.mem_cons_self)
    have ih := more_inv f r (fun z hz => hd z (List.mem_cons_of_mem _ hz)) (trim_tail x r ht) (by simpa using hl)
    rw [more_succ f _ (by omega)]
    rw [numOf_rev] at hp ⊢
    rw [show (numOf r.reverse * 10 + (x - 48)) / 10 = numOf r.reverse by omega, ih]
    rw [show 48 + (numOf r.reverse * 10 + (x - 48)) % 10 = x by omega]
theorem digs_more' (f : Nat) (V : Int) (h : V ≠ 0) : digs (f + 1) V = more (f + 1) V := by rw [digs_more, more_succ f V h]
theorem digs_val (f : Nat) (V : Int) (h0 : 0 ≤ V) (h1 : V < 10 ^ (f + 1)) : numOf (digs (f + 1) V).reverse = V := by
  rw [Int.pow_succ] at h1
  rw [digs_more, numOf_rev, more_val f _ (by omega) (by omega)]
  omega
theorem digs_digs (f : Nat) (V : Int) (h0 : 0 ≤ V) : Digs (digs (f + 1) V) := by
  rw [digs_more]
  intro x hx
  rcases List.mem_cons.mp hx with rfl | hx
  · omega
  · exact more_digs f (V / 10) (by omega) x hx
theorem digs_trim (f : Nat) (V : Int) (h0 : 0 < V) (h1 : V < 10 ^ (f + 1)) : trim (digs (f + 1) V) = true := by
  rw [digs_more' f V (by omega)]
  exact more_trim (f + 1) V (by omega) h1

theorem val39 (V : Int) (h0 : 0 ≤ V) (h1 : V < 340282366920938463463374607431768211456) : numOf (digs 39 V).reverse = V := digs_val 38 V h0 (Int.lt_trans h1 (by decide))
theorem digs39 (V : Int) (h0 : 0 ≤ V) : Digs (digs 39 V) := digs_digs 38 V h0
theorem trim39 (V : Int) (h0 : 0 < V) (h1 : V < 340282366920938463463374607431768211456) : trim (digs 39 V) = true := digs_trim 38 V h0 (Int.lt_trans h1 (by decide))

theorem nd_all : ∀ l : List Int, Digs l → nd l = l.length
  | [], _ => rfl
  | x :: r, h => by
    rw [nd, if_pos (h x (List.mem_cons_self)), nd_all r (fun z hz => h z (List.mem_cons_of_mem _ hz))]
    rfl
theorem all_nd (l : List Int) (h : nd l = l.length) : Digs l := by
  intro x hx
  obtain ⟨k, hk, rfl⟩ := List.getElem_of_mem hx
  have := nd_digit l k (by omega)
  simpa [List.getD, List.getElem?_eq_getElem hk] using this
theorem digs_rev {l : List Int} (h : Digs l) : Digs l.reverse := fun x hx => h x (List.mem_reverse.mp hx)
theorem trim_head : ∀ l : List Int, l ≠ [] → (trim l = true ↔ l.reverse.getD 0 0 ≠ 48)
  | [], h => absurd rfl h
  | [x], _ => by simp [trim]
  | x :: y :: r, _ => by
    have ih := trim_head (y :: r) (by simp)
    rw [trim, ih, List.reverse_cons (a := x)]
    have : (y :: r).reverse.length ≠ 0 := by simp
    simp only [List.getD]
    rw [List.getElem?_append_left (by omega)]

theorem readE_digs (V : Int) (h0 : 0 ≤ V) (h1 : V < 340282366920938463463374607431768211456) :
    readV (digs 39 V).reverse = V ∧ readE (digs 39 V).reverse = 0 ∧ readAt (digs 39 V).reverse = 0 := by
  have hv := val39 V h0 h1
  have hd := nd_all _ (digs_rev (digs39 V h0))
  have hl : (digs 39 V).reverse.length ≠ 0 := by rw [digs_more]; simp
  have hh : ¬ (1 < (digs 39 V).reverse.length ∧ (digs 39 V).reverse.getD 0 0 = 48) := by
    rintro ⟨hl, hz⟩
    by_cases hV : V = 0
    · subst hV
      rw [digs_more, show (0 : Int) / 10 = 0 from rfl, more_zero] at hl
      simp at hl
    · exact absurd hz ((trim_head (digs 39 V) (by rw [digs_more]; simp)).mp (trim39 V (by omega) h1))
  refine ⟨?_, ?_, ?_⟩
  · unfold readV
    rw [if_neg hl, if_neg (by omega), if_neg hh, hv, if_neg (by omega)]
  · unfold readE
    rw [if_neg hl, if_neg (by omega), if_neg hh, hv, if_neg (by omega)]
  · unfold readAt
    rw [if_neg hl, if_neg (by omega)]

theorem readE_cases (ds : List Int) : readE ds = 6 ∨ readE ds = 5 ∨ readE ds = 3 ∨ readE ds = 0 := by
  unfold readE
  repeat (first | split | omega)
theorem readV_bad (ds : List Int) (h : readE ds ≠ 0) : readV ds = 0 := by
  unfold readE at h
  unfold readV
  repeat (first | split | rfl | (exfalso; simp_all; done))
theorem readAt_bd (ds : List Int) : 0 ≤ readAt ds ∧ readAt ds ≤ ds.length := by
  have := nd_le ds
  unfold readAt
  repeat (first | split | omega)
theorem readE_zero (ds : List Int) (h : readE ds = 0) : ds.length ≠ 0 ∧ nd ds = ds.length ∧ ¬ (1 < ds.length ∧ ds.getD 0 0 = 48) ∧ numOf ds < 340282366920938463463374607431768211456 ∧ readV ds = numOf ds ∧ readAt ds = 0 := by
  have hn := nd_le ds
  unfold readE at h
  by_cases h1 : ds.length = 0
  · rw [if_pos h1] at h; omega
  rw [if_neg h1] at h
  by_cases h2 : nd ds < ds.length
  · rw [if_pos h2] at h; omega
  rw [if_neg h2] at h
  by_cases h3 : 1 < ds.length ∧ ds.getD 0 0 = 48
  · rw [if_pos h3] at h; omega
  rw [if_neg h3] at h
  by_cases h4 : 340282366920938463463374607431768211456 ≤ numOf ds
  · rw [if_pos h4] at h; omega
  refine ⟨h1, by omega, h3, by omega, ?_, ?_⟩
  · unfold readV; rw [if_neg h1, if_neg h2, if_neg h3, if_neg h4]
  · unfold readAt; rw [if_neg h1, if_neg h2]
/-- What is read is told as it was written. -/
theorem digs_read (ds : List Int) (h : readE ds = 0) : digs 39 (readV ds) = ds.reverse ∧ 0 ≤ readV ds ∧ readV ds < 340282366920938463463374607431768211456 := by
  obtain ⟨hl, hn, hh, hs, hv, _⟩ := readE_zero ds h
  have hd := all_nd ds hn
  have h0 := val_nonneg ds.reverse (digs_rev hd)
  rw [List.reverse_reverse] at h0
  rw [hv]
  refine ⟨?_, h0, hs⟩
  by_cases h1 : ds.length = 1
  · obtain ⟨x, rfl⟩ : ∃ x, ds = [x] := List.length_eq_one_iff.mp h1
    have hx := hd x (List.mem_cons_self)
    have e : numOf [x] = x - 48 := by simp [numOf, numTo]
    rw [e, digs_more, show (x - 48) / 10 = 0 by omega, more_zero]
    show [48 + (x - 48) % 10] = [x]
    congr 1
    omega
  · have hne : ds.reverse ≠ [] := by intro e; apply hl; have := congrArg List.length e; simpa using this
    have ht : trim ds.reverse = true := (trim_head _ hne).mpr (by rw [List.reverse_reverse]; exact fun e => hh ⟨by omega, e⟩)
    have hp := val_pos ds.reverse (digs_rev hd) ht hne
    rw [List.reverse_reverse] at hp
    have hlen : ds.length ≤ 39 := by
      apply Classical.byContradiction
      intro hlen
      have hb := numTo_big ds (fun e => hh ⟨by omega, e⟩) (ds.length - 1) (fun j hj => nd_digit ds j (by omega))
      rw [show ds.length - 1 + 1 = ds.length by omega] at hb
      have h39 := pow_ge (ds.length - 1 - 39)
      rw [show 39 + (ds.length - 1 - 39) = ds.length - 1 by omega] at h39
      unfold numOf at hs
      omega
    rw [digs_more' 38 _ (by omega)]
    have := more_inv 39 ds.reverse (digs_rev hd) ht (by simpa using hlen)
    rwa [List.reverse_reverse] at this

theorem nums_str (l : List Int) (h : ∀ x ∈ l, 0 ≤ x ∧ x < 256) : nums (strOfNums l) = l := by
  unfold nums strOfNums
  rw [List.map_map]
  induction l with
  | nil => rfl
  | cons x r ih =>
    have hx := h x (List.mem_cons_self)
    rw [List.map_cons, ih (fun z hz => h z (List.mem_cons_of_mem _ hz))]
    congr 1
    simp
    omega
theorem str_nums (s : ByteArray) : strOfNums (nums s) = s := by
  apply Go.WideShapes.bytes_inj
  unfold nums strOfNums
  rw [List.map_map]
  show List.map _ s.data.toList = _
  conv => rhs; rw [← List.map_id s.data.toList]
  apply List.map_congr_left
  intro x _
  simp
theorem nums_text (V : Int) (h : 0 ≤ V) : nums (textOf V) = (digs 39 V).reverse := by
  refine nums_str _ fun x hx => ?_
  have := digs_rev (digs39 V h) x hx
  omega
theorem text_read (s : ByteArray) (h : readE (nums s) = 0) : textOf (readV (nums s)) = s := by
  unfold textOf
  rw [(digs_read _ h).1, List.reverse_reverse, str_nums]

/-! The order. -/
theorem numOf_app (A : List Int) : ∀ l : List Int, numOf (A ++ l.reverse) = numOf A * 10 ^ l.length + numOf l.reverse
  | [] => by simp [numOf, numTo]
  | x :: r => by
    rw [List.reverse_cons, ← List.append_assoc, numOf_snoc, numOf_snoc, numOf_app A r, List.length_cons, Int.pow_succ, Int.add_mul, ← Int.mul_assoc]
    omega
theorem numOf_cons (x : Int) (r : List Int) : numOf (x :: r) = (x - 48) * 10 ^ r.length + numOf r := by
  have := numOf_app [x] r.reverse
  rw [List.reverse_reverse, List.length_reverse] at this
  rw [show x :: r = [x] ++ r from rfl, this]
  congr 2
  simp [numOf, numTo]
theorem numOf_bd : ∀ l : List Int, Digs l → 0 ≤ numOf l ∧ numOf l < 10 ^ l.length
  | [], _ => by simp [numOf, numTo]
  | x :: r, h => by
    have ih := numOf_bd r (fun z hz => h z (List.mem_cons_of_mem _ hz))
    have hx := h x (List.mem_cons_self)
    rw [numOf_cons, List.length_cons, Int.pow_succ]
    have hP : (0 : Int) < 10 ^ r.length := by omega
    generalize (10 : Int) ^ r.length = Q at *
    have h1 : 0 ≤ (x - 48) * Q := Int.mul_nonneg (by omega) (by omega)
    have h2 : (x - 48) * Q ≤ 9 * Q := Int.mul_le_mul_of_nonneg_right (by omega) (by omega)
    omega
def byt (l : List Int) : List UInt8 := l.map fun n => UInt8.ofNat n.toNat
theorem byt_lt (x y : Int) (hx : 48 ≤ x ∧ x ≤ 57) (hy : 48 ≤ y ∧ y ≤ 57) : decide (UInt8.ofNat x.toNat < UInt8.ofNat y.toNat) = decide (x < y) := by
  apply decide_eq_decide.mpr
  rw [UInt8.lt_iff_toNat_lt]
  simp
  omega
theorem byt_eq (x y : Int) (hx : 48 ≤ x ∧ x ≤ 57) (hy : 48 ≤ y ∧ y ≤ 57) : (UInt8.ofNat x.toNat == UInt8.ofNat y.toNat) = decide (x = y) := by
  have : (UInt8.ofNat x.toNat = UInt8.ofNat y.toNat) ↔ x = y := by
    constructor
    · intro h
      have := congrArg UInt8.toNat h
      simp at this
      omega
    · rintro rfl; rfl
  by_cases h : x = y
  · subst h; simp
  · simp [h, this]
theorem less_num : ∀ A B : List Int, Digs A → Digs B → A.length = B.length → Op.bytesLess (byt A) (byt B) = decide (numOf A < numOf B)
  | [], [], _, _, _ => by simp [byt, Op.bytesLess]
  | [], _ :: _, _, _, h => by simp at h
  | _ :: _, [], _, _, h => by simp at h
  | x :: A, y :: B, hA, hB, h => by
    have hx := hA x (List.mem_cons_self)
    have hy := hB y (List.mem_cons_self)
    have dA : Digs A := fun z hz => hA z (List.mem_cons_of_mem _ hz)
    have dB : Digs B := fun z hz => hB z (List.mem_cons_of_mem _ hz)
    have hl : A.length = B.length := by simpa using h
    have ih := less_num A B dA dB hl
    have bA := numOf_bd A dA
    have bB := numOf_bd B dB
    show (decide (UInt8.ofNat x.toNat < UInt8.ofNat y.toNat) || (UInt8.ofNat x.toNat == UInt8.ofNat y.toNat && Op.bytesLess (byt A) (byt B))) = _
    rw [ih, byt_lt x y hx hy, byt_eq x y hx hy, numOf_cons, numOf_cons, hl]
    rw [hl] at bA
    generalize (10 : Int) ^ B.length = Q at *
    by_cases h1 : x < y
    · have : (x - 48 + 1) * Q ≤ (y - 48) * Q := Int.mul_le_mul_of_nonneg_right (by omega) (by omega)
      rw [Int.add_mul, Int.one_mul] at this
      have h3 : (x - 48) * Q + numOf A < (y - 48) * Q + numOf B := by omega
      simp [h1, h3]
    · by_cases h2 : x = y
      · subst h2
        simp
      · have : (y - 48 + 1) * Q ≤ (x - 48) * Q := Int.mul_le_mul_of_nonneg_right (by omega) (by omega)
        rw [Int.add_mul, Int.one_mul] at this
        have h3 : ¬ ((x - 48) * Q + numOf A < (y - 48) * Q + numOf B) := by omega
        simp [h1, h2, h3]
theorem text_bytes (V : Int) : (textOf V).toList = byt (digs 39 V).reverse := by
  rw [ByteArray.toList_eq]
  rfl
theorem text_size (V : Int) : (textOf V).size = (digs 39 V).length := by
  unfold textOf
  rw [strOfNums_size, List.length_reverse]
theorem num_front (l : List Int) (hd : Digs l) (ht : l.length = 1 ∨ (l ≠ [] ∧ trim l.reverse = true)) (hl : 1 < l.length) : (10 : Int) ^ (l.length - 1) ≤ numOf l := by
  rcases ht with h | ⟨h, ht⟩
  · omega
  · have := (trim_head l.reverse (by simpa using h)).mp ht
    rw [List.reverse_reverse] at this
    have hb := numTo_big l this (l.length - 1) (fun j hj => nd_digit l j (by rw [nd_all l hd]; omega))
    rw [show l.length - 1 + 1 = l.length by omega] at hb
    exact hb
theorem pow_mono (a k : Nat) : (10 : Int) ^ a ≤ 10 ^ (a + k) := by
  induction k with
  | zero => simp
  | succ k ih =>
    have : (0 : Int) < 10 ^ (a + k) := Int.pow_pos (by decide)
    rw [← Nat.add_assoc, Int.pow_succ]
    omega
theorem len_less (V U : Int) (hV : 0 ≤ V) (hV1 : V < 340282366920938463463374607431768211456) (hU : 0 ≤ U) (hU1 : U < 340282366920938463463374607431768211456) (h : (digs 39 V).length < (digs 39 U).length) : V < U := by
  have h1 := numOf_bd _ (digs_rev (digs39 V hV))
  rw [val39 V hV hV1, List.length_reverse] at h1
  have hp : 0 < (digs 39 V).length := by rw [digs_more]; simp
  have hU0 : 0 < U := by
    apply Classical.byContradiction
    intro hn
    obtain rfl : U = 0 := by omega
    have e : (digs 39 0).length = 1 := by rw [digs_more, show (0 : Int) / 10 = 0 from rfl, more_zero]; rfl
    omega
  have h2 := num_front _ (digs_rev (digs39 U hU)) (.inr ⟨by rw [digs_more]; simp, by rw [List.reverse_reverse]; exact trim39 U hU0 hU1⟩) (by rw [List.length_reverse]; omega)
  rw [val39 U hU hU1, List.length_reverse] at h2
  have h3 := pow_mono (digs 39 V).length ((digs 39 U).length - 1 - (digs 39 V).length)
  rw [show (digs 39 V).length + ((digs 39 U).length - 1 - (digs 39 V).length) = (digs 39 U).length - 1 by omega] at h3
  omega
theorem text_inj (V U : Int) (hV : 0 ≤ V) (hV1 : V < 340282366920938463463374607431768211456) (hU : 0 ≤ U) (hU1 : U < 340282366920938463463374607431768211456) : (textOf V).toList = (textOf U).toList ↔ V = U := by
  constructor
  · intro h
    rw [ByteArray.toList_eq, ByteArray.toList_eq] at h
    have h1 := congrArg nums (Go.WideShapes.bytes_inj h)
    rw [nums_text V hV, nums_text U hU] at h1
    have h2 := congrArg numOf h1
    rwa [val39 V hV hV1, val39 U hU hU1] at h2
  · rintro rfl; rfl
/-- How two texts stand. -/
def ord (t u : ByteArray) : Int := if t.size < u.size ∨ (t.size = u.size ∧ Op.bytesLess t.toList u.toList = true) then -1 else if t.toList = u.toList then 0 else 1
theorem ord_text (V U : Int) (hV : 0 ≤ V) (hV1 : V < 340282366920938463463374607431768211456) (hU : 0 ≤ U) (hU1 : U < 340282366920938463463374607431768211456) : ord (textOf V) (textOf U) = cmpI V U := by
  unfold ord cmpI
  rw [text_size, text_size]
  have hlt : ((digs 39 V).length < (digs 39 U).length ∨ ((digs 39 V).length = (digs 39 U).length ∧ Op.bytesLess (textOf V).toList (textOf U).toList = true)) ↔ V < U := by
    rcases Nat.lt_trichotomy (digs 39 V).length (digs 39 U).length with h | h | h
    · have := len_less V U hV hV1 hU hU1 h
      simp [h, this]
    · rw [text_bytes, text_bytes, less_num _ _ (digs_rev (digs39 V hV)) (digs_rev (digs39 U hU)) (by simpa using h), val39 V hV hV1, val39 U hU hU1]
      simp [h]
    · have := len_less U V hU hU1 hV hV1 h
      constructor
      · rintro (h1 | ⟨h1, _⟩) <;> omega
      · intro h1; omega
  by_cases h1 : V < U
  · rw [if_pos (hlt.mpr h1), if_pos h1]
  · rw [if_neg (fun h => h1 (hlt.mp h)), if_neg h1]
    by_cases h2 : V = U
    · rw [if_pos ((text_inj V U hV hV1 hU hU1).mpr h2), if_neg (by omega)]
    · rw [if_neg (fun h => h2 ((text_inj V U hV hV1 hU hU1).mp h)), if_pos (by omega)]
end BackM
end Go.Proofs.Ytcokhdajdnkinaa
