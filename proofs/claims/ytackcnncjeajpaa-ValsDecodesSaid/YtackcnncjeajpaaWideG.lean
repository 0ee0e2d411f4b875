/-
  Sum and Read of package wide.
-/
import Derived.Test.YtackcnncjeajpaaWideF
namespace Go.Proofs.Ytackcnncjeajpaa
open Go.RowKit Go.Shelf
namespace WideG
open WideA WideB WideT WideI WideF

/-- The first place at which something fails. -/
theorem least (P : Nat → Prop) (n : Nat) : (∀ k, k < n → P k) ∨ ∃ j, j < n ∧ ¬ P j ∧ ∀ k, k < j → P k := by
  induction n with
  | zero => exact .inl (fun k h => by omega)
  | succ n ih =>
    rcases ih with h | ⟨j, h1, h2, h3⟩
    · by_cases hp : P n
      · refine .inl fun k hk => ?_
        by_cases e : k = n
        · rw [e]; exact hp
        · exact h k (by omega)
      · exact .inr ⟨n, by omega, hp, h⟩
    · exact .inr ⟨j, by omega, h2, h3⟩

/-- The sum of the first k numbers. -/
def sumTo (xs : List Int) : Nat → Int
  | 0 => 0
  | k + 1 => sumTo xs k + xs.getD k 0
theorem sumTo_bd (xs : List Int) (hw : ∀ k, 0 ≤ xs.getD k 0 → xs.getD k 0 ≤ 9223372036854775807) : ∀ k, (∀ j, j < k → 0 ≤ xs.getD j 0) → 0 ≤ sumTo xs k ∧ sumTo xs k ≤ k * 9223372036854775807
  | 0, _ => by simp [sumTo]
  | k + 1, h => by
    have h1 := sumTo_bd xs hw k (fun j hj => h j (by omega))
    have h2 := h k (by omega)
    have h3 := hw k h2
    unfold sumTo
    omega

/-- What Sum answers. -/
def sumRes (xs : List Int) (V : Value) : Prop :=
  ((∀ k, k < xs.length → 0 ≤ xs.getD k 0) ∧ V = .tuple #[.agg #[.int .u64 (sumTo xs xs.length / 18446744073709551616), .int .u64 (sumTo xs xs.length % 18446744073709551616)], .int .i64 0]) ∨
  ((∃ k, k < xs.length ∧ xs.getD k 0 < 0) ∧ V = .tuple #[.agg #[.int .u64 0, .int .u64 0], .int .i64 3])

theorem fold_sum (xs : List Int) (a : Option Addr) (b off n cap : Nat) (w : World) (hn : n = xs.length) (hn63 : n ≤ 9223372036854775807)
    (hw : ∀ k, 0 ≤ xs.getD k 0 → xs.getD k 0 ≤ 9223372036854775807)
    (ha : n = 0 ∨ a = some ⟨b, off, none⟩) (hcell : ∀ k, k < n → w.cell? ⟨b, off + k, none⟩ = some (.int .i64 (xs.getD k 0))) (hb : b < w.heap.size) :
    Calls Try.prog 155 #[.slice a n cap, .agg #[.int .u64 0, .int .u64 0], .func (.func 156) #[] #[]] w fun e w' => ∃ V, e = .returned V ∧ sumRes xs V ∧ Below w.heap.size w w' := by
  have step : ∀ k, k < n → (∀ j, j < k + 1 → 0 ≤ xs.getD j 0) → ∀ W, Calls Try.prog 156 #[.agg #[.int .u64 (sumTo xs k / 18446744073709551616), .int .u64 (sumTo xs k % 18446744073709551616)], .int .i64 (xs.getD k 0)] W fun e w' =>
      e = .returned (.tuple #[.agg #[.int .u64 (sumTo xs (k + 1) / 18446744073709551616), .int .u64 (sumTo xs (k + 1) % 18446744073709551616)], .int .i64 0]) ∧ Below W.heap.size W w' := by
    intro k hk hp W
    have h1 := sumTo_bd xs hw k (fun j hj => hp j (by omega))
    have h2 := sumTo_bd xs hw (k + 1) hp
    have h3 := hp k (by omega)
    have C := sj_pos (sumTo xs k / 18446744073709551616) (sumTo xs k % 18446744073709551616) (xs.getD k 0) W (by omega) (by omega) (by omega) (by omega) h3 (hw k h3)
    rw [show sumTo xs k / 18446744073709551616 * 18446744073709551616 + sumTo xs k % 18446744073709551616 + xs.getD k 0 = sumTo xs (k + 1) by show _ = sumTo xs k + xs.getD k 0; omega, wRes_ok h2.1 (by omega)] at C
    exact C
  rcases least (fun k => 0 ≤ xs.getD k 0) n with hall | ⟨j, hj, hneg, hpre⟩
  · refine (foldI xs (sumTo xs) n 1 a b off n cap w hn hn63 ha hcell hb rfl (Nat.le_refl _) (fun k hk => step k hk (fun j hj => hall j (by omega))) (.inl rfl)).mono ?_
    rintro e w' ⟨h | h, hB⟩
    · exact ⟨_, h.2, .inl ⟨by rw [← hn]; exact hall, by rw [← hn]⟩, hB⟩
    · omega
  · refine (foldI xs (sumTo xs) j 3 a b off n cap w hn hn63 ha hcell hb rfl (by omega) (fun k hk => step k (by omega) (fun i hi => hpre i (by omega))) (.inr ⟨hj, by decide, fun W => sj_neg _ _ _ W (by omega)⟩)).mono ?_
    rintro e w' ⟨h | h, hB⟩
    · omega
    · exact ⟨_, h.2, .inr ⟨⟨j, by omega, by omega⟩, rfl⟩, hB⟩

set_option maxHeartbeats 400000 in
/-- wide.Sum. -/
theorem sum_any (xs : List Int) (a : Option Addr) (b off n cap : Nat) (w : World) (hn : n = xs.length) (hn63 : n ≤ 9223372036854775807)
    (hw : ∀ k, 0 ≤ xs.getD k 0 → xs.getD k 0 ≤ 9223372036854775807)
    (ha : n = 0 ∨ a = some ⟨b, off, none⟩) (hcell : ∀ k, k < n → w.cell? ⟨b, off + k, none⟩ = some (.int .i64 (xs.getD k 0))) (hb : b < w.heap.size) :
    Calls Try.prog 72 #[.slice a n cap] w fun e w' => ∃ V, e = .returned V ∧ sumRes xs V ∧ Below w.heap.size w w' := by
  have C := fold_sum xs a b off n cap (w.alloc (.cells #[.int .u64 0, .int .u64 0] 98)) hn hn63 hw ha (fun k hk => ((((Below.refl w.heap.size w).alloc (Nat.le_refl _) _).cell (p := ⟨b, off + k, none⟩) hb).trans (hcell k hk))) (by simp; omega)
  have H := hide C
  clear C hcell hw hn ha
  go_enter Try.func72, Try.ntmps72
  go_wp2_with fail
  refine H.out.mono ?_
  rintro e w1 ⟨V, rfl, hV, hB⟩
  obtain ⟨hc, hf, hz⟩ := bcell hB
  simp only [World.size_alloc] at hc hf hz
  obtain ⟨x, y, z, rfl⟩ : ∃ x y z : Int, V = .tuple #[.agg #[.int .u64 x, .int .u64 y], .int .i64 z] := by
    rcases hV with ⟨_, h⟩ | ⟨_, h⟩ <;> exact ⟨_, _, _, h⟩
  have HV := hide hV
  clear hV
  go_wp2
  exact bodyPost_ret (v := .tuple #[.agg #[.int .u64 x, .int .u64 y], .int .i64 z]) (by simp [results, Try.results72, go_sem, hc]) rfl ⟨_, rfl, HV.out, (by repeat (first | assumption | exact Below.refl _ _ | refine Below.setCell ?_ (by first | omega | (simp; done) | (simp; omega)) _ | refine below_drewN ?_ _ | refine Below.drew ?_ | refine Below.alloc ?_ (by first | omega | (simp; done) | (simp; omega)) _ | refine Below.trans ?_ (Below.mono (by assumption) (by first | omega | (simp; done) | (simp; omega)))))⟩

/-- A string's bytes as numbers. -/
def nums (s : ByteArray) : List Int := s.data.toList.map (fun b => (b.toNat : Int))
theorem nums_len (s : ByteArray) : (nums s).length = s.size := by simp [nums]
theorem nums_get (s : ByteArray) (k : Nat) (h : k < s.size) : (nums s).getD k 0 = ((s[k]).toNat : Int) := by
  have h1 : k < s.data.toList.length := by simpa using h
  simp only [nums, List.getD, List.getElem?_map, List.getElem?_eq_getElem h1, Option.map_some, Option.getD_some]
  rfl

/-- The first place that is no digit. -/
def nd : List Int → Nat
  | [] => 0
  | x :: r => if 48 ≤ x ∧ x ≤ 57 then nd r + 1 else 0
theorem nd_le : ∀ l : List Int, nd l ≤ l.length
  | [] => by simp [nd]
  | x :: r => by
    have := nd_le r
    unfold nd
    split <;> simp <;> omega
theorem nd_digit : ∀ (l : List Int) (k : Nat), k < nd l → 48 ≤ l.getD k 0 ∧ l.getD k 0 ≤ 57
  | [], k, h => by simp [nd] at h
  | x :: r, k, h => by
    unfold nd at h
    split at h
    · rename_i hx
      cases k with
      | zero => simpa using hx
      | succ k => simpa using nd_digit r k (by omega)
    · omega
theorem nd_stop : ∀ (l : List Int), nd l < l.length → ¬ (48 ≤ l.getD (nd l) 0 ∧ l.getD (nd l) 0 ≤ 57)
  | [], h => by simp at h
  | x :: r, h => by
    by_cases hx : 48 ≤ x ∧ x ≤ 57
    · have e : nd (x :: r) = nd r + 1 := by rw [nd, if_pos hx]
      rw [e] at h ⊢
      simpa using nd_stop r (by simpa using h)
    · have e : nd (x :: r) = 0 := by rw [nd, if_neg hx]
      rw [e]
      simpa using hx

set_option maxHeartbeats 1000000 in
theorem notDigit_any (s : ByteArray) (w : World) (hs : s.size ≤ 9223372036854775807) :
    Calls Try.prog 195 #[.string s] w fun e w' => e = .returned (.int .i64 (nd (nums s))) ∧ w' = w := by
  have hle := nd_le (nums s)
  rw [nums_len] at hle
  go_enter Try.func195, Try.ntmps195
  go_wp2
  go_loop [6] (fun v => ∃ k : Nat, k ≤ nd (nums s) ∧ v = .int .i64 k) (fun v => s.size - (intOf v).toNat)
  case atStart => exact ⟨0, Nat.zero_le _, rfl⟩
  case round =>
    obtain ⟨k, hk, rfl⟩ := hrel
    by_cases hlt : k < nd (nums s)
    · have hks : k < s.size := by omega
      have hd := nd_digit _ k hlt
      rw [nums_get s k hks] at hd
      obtain ⟨hd1, hd2⟩ := hd
      go_wp2
      go_round
      case rel => exact ⟨k + 1, by omega, by go_num⟩
      case measure => simp [intOf]; omega
    · have hkd : k = nd (nums s) := by omega
      have HK := hide hkd
      by_cases hks : k < s.size
      · have hst := nd_stop (nums s) (by rw [nums_len]; omega)
        rw [← hkd, nums_get s _ hks] at hst
        clear hkd hlt hk hle
        by_cases h48 : (48 : Int) ≤ ((s[k]).toNat : Int)
        · have h57 : (57 : Int) < ((s[k]).toNat : Int) := by omega
          clear hst
          go_wp2
          go_ret
          exact ⟨by rw [← HK.out]; rfl, rfl⟩
        · have h47 : ((s[k]).toNat : Int) < 48 := by omega
          clear hst h48
          go_wp2
          go_ret
          exact ⟨by rw [← HK.out]; rfl, rfl⟩
      · obtain rfl : k = s.size := by omega
        clear hkd hlt hk hle
        go_wp2
        go_ret
        exact ⟨by rw [← HK.out]; rfl, rfl⟩

/-- The number that the first k digits are. -/
def numTo (ds : List Int) : Nat → Int
  | 0 => 0
  | k + 1 => numTo ds k * 10 + (ds.getD k 0 - 48)
def numOf (ds : List Int) : Int := numTo ds ds.length
theorem numTo_nonneg (ds : List Int) : ∀ k, (∀ j, j < k → 48 ≤ ds.getD j 0 ∧ ds.getD j 0 ≤ 57) → 0 ≤ numTo ds k
  | 0, _ => by simp [numTo]
  | k + 1, h => by
    have h1 := numTo_nonneg ds k (fun j hj => h j (by omega))
    have h2 := h k (by omega)
    unfold numTo
    omega
theorem numTo_mono (ds : List Int) (k : Nat) : ∀ m, (∀ j, j < k + m → 48 ≤ ds.getD j 0 ∧ ds.getD j 0 ≤ 57) → numTo ds k ≤ numTo ds (k + m)
  | 0, _ => by simp
  | m + 1, h => by
    have h1 := numTo_mono ds k m (fun j hj => h j (by omega))
    have h2 := h (k + m) (by omega)
    have h3 := numTo_nonneg ds (k + m) (fun j hj => h j (by omega))
    show numTo ds k ≤ numTo ds (k + m) * 10 + (ds.getD (k + m) 0 - 48)
    omega
theorem numTo_big (ds : List Int) (h0 : ds.getD 0 0 ≠ 48) : ∀ k, (∀ j, j < k + 1 → 48 ≤ ds.getD j 0 ∧ ds.getD j 0 ≤ 57) → (10 : Int) ^ k ≤ numTo ds (k + 1)
  | 0, h => by
    have h1 := h 0 (by omega)
    show (1 : Int) ≤ 0 * 10 + (ds.getD 0 0 - 48)
    omega
  | k + 1, h => by
    have h1 := numTo_big ds h0 k (fun j hj => h j (by omega))
    have h2 := h (k + 1) (by omega)
    have e : (10 : Int) ^ (k + 1) = 10 ^ k * 10 := Int.pow_succ _ _
    rw [e]
    show (10 : Int) ^ k * 10 ≤ numTo ds (k + 1) * 10 + (ds.getD (k + 1) 0 - 48)
    omega

theorem fold_num (ds : List Int) (b off n cap : Nat) (w : World) (hn : n = ds.length) (hn63 : n ≤ 9223372036854775807)
    (hd : ∀ k, k < n → 48 ≤ ds.getD k 0 ∧ ds.getD k 0 ≤ 57)
    (hcell : ∀ k, k < n → w.cell? ⟨b, off + k, none⟩ = some (.int .u8 (ds.getD k 0))) (hb : b < w.heap.size) :
    Calls Try.prog 196 #[.slice (some ⟨b, off, none⟩) n cap, .agg #[.int .u64 0, .int .u64 0], .func (.func 197) #[] #[]] w fun e w' => e = .returned (wRes (numOf ds)) ∧ Below w.heap.size w w' := by
  have step : ∀ k, k < n → numTo ds k < 340282366920938463463374607431768211456 → ∀ W, Calls Try.prog 197 #[.agg #[.int .u64 (numTo ds k / 18446744073709551616), .int .u64 (numTo ds k % 18446744073709551616)], .int .u8 (ds.getD k 0)] W fun e w' =>
      e = .returned (wRes (numTo ds (k + 1))) ∧ Below W.heap.size W w' := by
    intro k hk hlt W
    have h1 := numTo_nonneg ds k (fun j hj => hd j (by omega))
    have h3 := hd k hk
    have C := join_any (numTo ds k / 18446744073709551616) (numTo ds k % 18446744073709551616) (ds.getD k 0) W (by omega) (by omega) (by omega) (by omega) h3.1 h3.2
    rw [show (numTo ds k / 18446744073709551616 * 18446744073709551616 + numTo ds k % 18446744073709551616) * 10 + (ds.getD k 0 - 48) = numTo ds (k + 1) by show _ = numTo ds k * 10 + (ds.getD k 0 - 48); omega] at C
    exact C
  have h0 := numTo_nonneg ds
  rcases least (fun k => numTo ds (k + 1) < 340282366920938463463374607431768211456) n with hall | ⟨j, hj, hbig, hpre⟩
  · have hlt : ∀ k, k ≤ n → numTo ds k < 340282366920938463463374607431768211456 := by
      intro k hk
      cases k with
      | zero => simp [numTo]
      | succ k => exact hall k (by omega)
    refine (foldB ds (numTo ds) n 1 _ b off n cap w hn hn63 (.inr rfl) hcell hb rfl (Nat.le_refl _) (fun k hk W => ?_) (.inl rfl)).mono ?_
    · have := step k hk (hlt k (by omega)) W
      rw [wRes_ok (h0 (k + 1) (fun j hj => hd j (by omega))) (hlt (k + 1) (by omega))] at this
      exact this
    · rintro e w' ⟨h | h, hB⟩
      · refine ⟨?_, hB⟩
        rw [h.2, numOf, ← hn, wRes_ok (h0 n hd) (hlt n (Nat.le_refl _))]
      · omega
  · have hlt : ∀ k, k ≤ j → numTo ds k < 340282366920938463463374607431768211456 := by
      intro k hk
      cases k with
      | zero => simp [numTo]
      | succ k => exact hpre k (by omega)
    have hfull : 340282366920938463463374607431768211456 ≤ numOf ds := by
      have h1 := numTo_mono ds (j + 1) (n - (j + 1)) (fun i hi => hd i (by omega))
      rw [show j + 1 + (n - (j + 1)) = n by omega] at h1
      unfold numOf
      rw [← hn]
      omega
    refine (foldB ds (numTo ds) j 7 _ b off n cap w hn hn63 (.inr rfl) hcell hb rfl (by omega) (fun k hk W => ?_) (.inr ⟨hj, by decide, fun W => ?_⟩)).mono ?_
    · have := step k (by omega) (hlt k (by omega)) W
      rw [wRes_ok (h0 (k + 1) (fun i hi => hd i (by omega))) (hlt (k + 1) (by omega))] at this
      exact this
    · have := step j hj (hlt j (Nat.le_refl _)) W
      rw [wRes_full (by omega)] at this
      exact this
    · rintro e w' ⟨h | h, hB⟩
      · omega
      · refine ⟨?_, hB⟩
        rw [h.2, wRes_full hfull]

/-- What Read answers: the number, what is wrong, and where. -/
def readV (ds : List Int) : Int := if ds.length = 0 then 0 else if nd ds < ds.length then 0 else if 1 < ds.length ∧ ds.getD 0 0 = 48 then 0 else if 340282366920938463463374607431768211456 ≤ numOf ds then 0 else numOf ds
def readE (ds : List Int) : Int := if ds.length = 0 then 6 else if nd ds < ds.length then 5 else if 1 < ds.length ∧ ds.getD 0 0 = 48 then 5 else if 340282366920938463463374607431768211456 ≤ numOf ds then 3 else 0
def readAt (ds : List Int) : Int := if ds.length = 0 then 0 else if nd ds < ds.length then nd ds else 0
def readRes (ds : List Int) : Value := .tuple #[.agg #[.int .u64 (readV ds / 18446744073709551616), .int .u64 (readV ds % 18446744073709551616)], .agg #[.int .i64 (readE ds), .int .i64 (readAt ds)]]

theorem pow_ge : ∀ k : Nat, (10 : Int) ^ 39 ≤ 10 ^ (39 + k)
  | 0 => Int.le_refl _
  | k + 1 => by
    have h := pow_ge k
    have e : (10 : Int) ^ (39 + (k + 1)) = 10 ^ (39 + k) * 10 := Int.pow_succ _ _
    rw [e]
    have : (0 : Int) < 10 ^ 39 := by decide
    omega
theorem bytesRow_get (s : ByteArray) (c k : Nat) (h : k < s.size) : (bytesRow s c)[k]? = some (.int .u8 ((nums s).getD k 0)) := by
  rw [nums_get s k h]
  unfold bytesRow
  have h1 : k < s.data.size := h
  rw [Array.getElem?_append_left (by simpa using h1)]
  simp only [Array.getElem?_map, Array.getElem?_eq_getElem h1, Option.map_some]
  rfl

theorem row_cell (W : World) (s : ByteArray) (c b k : Nat) (t : TypeId) (fr : Nat × Nat) (hb : b = W.heap.size) (hk : k < s.size) :
    (W.alloc (.cells (bytesRow s c) t fr)).drew.cell? ⟨b, 0 + k, none⟩ = some (.int .u8 ((nums s).getD k 0)) := by
  subst hb
  rw [Nat.zero_add]
  show (W.alloc (.cells (bytesRow s c) t fr)).cell? _ = _
  rw [World.cell?_alloc_mark]
  exact bytesRow_get s c k hk

theorem empty_iff (s : ByteArray) : s.toList.isEmpty = decide (s.size = 0) := by
  rw [ByteArray.toList_eq]
  have : s.size = s.data.toList.length := by simp
  rw [this]
  cases s.data.toList <;> simp

set_option maxHeartbeats 4000000 in
theorem read_any (s : ByteArray) (w : World) (hs : s.size ≤ 9223372036854775807) :
    Calls Try.prog 161 #[.string s] w fun e w' => e = .returned (readRes (nums s)) ∧ Below w.heap.size w w' := by
  unfold readRes
  have hle := nd_le (nums s)
  rw [nums_len] at hle
  by_cases h0 : s.size = 0
  · have e1 : readV (nums s) = 0 := by unfold readV; rw [nums_len, if_pos h0]
    have e2 : readE (nums s) = 6 := by unfold readE; rw [nums_len, if_pos h0]
    have e3 : readAt (nums s) = 0 := by unfold readAt; rw [nums_len, if_pos h0]
    rw [e1, e2, e3]
    have he : s.toList.isEmpty = true := by rw [empty_iff]; simp [h0]
    clear e1 e2 e3 h0 hle
    go_enter Try.func161, Try.ntmps161
    go_wp2
    exact bodyPost_ret (v := .tuple #[.agg #[.int .u64 0, .int .u64 0], .agg #[.int .i64 6, .int .i64 0]]) (by simp [results, Try.results161, go_sem]) rfl ⟨rfl, (by repeat (first | assumption | exact Below.refl _ _ | refine Below.setCell ?_ (by first | omega | (simp; done) | (simp; omega)) _ | refine below_drewN ?_ _ | refine Below.drew ?_ | refine Below.alloc ?_ (by first | omega | (simp; done) | (simp; omega)) _ | refine Below.trans ?_ (Below.mono (by assumption) (by first | omega | (simp; done) | (simp; omega)))))⟩
  have he : s.toList.isEmpty = false := by rw [empty_iff]; simp [h0]
  have HND := hide (fun W => notDigit_any s W hs)
  by_cases h1 : nd (nums s) < s.size
  · have e1 : readV (nums s) = 0 := by unfold readV; rw [nums_len, if_neg h0, if_pos h1]
    have e2 : readE (nums s) = 5 := by unfold readE; rw [nums_len, if_neg h0, if_pos h1]
    have e3 : readAt (nums s) = nd (nums s) := by unfold readAt; rw [nums_len, if_neg h0, if_pos h1]
    rw [e1, e2, e3]
    clear e1 e2 e3 h0 hle
    generalize nd (nums s) = k at *
    go_enter Try.func161, Try.ntmps161
    go_wp2_with fail
    refine (HND.out _).mono ?_
    rintro e w1 ⟨rfl, hw⟩
    subst hw
    go_wp2
    exact bodyPost_ret (v := .tuple #[.agg #[.int .u64 0, .int .u64 0], .agg #[.int .i64 5, .int .i64 k]]) (by simp [results, Try.results161, go_sem]) rfl ⟨rfl, (by repeat (first | assumption | exact Below.refl _ _ | refine Below.setCell ?_ (by first | omega | (simp; done) | (simp; omega)) _ | refine below_drewN ?_ _ | refine Below.drew ?_ | refine Below.alloc ?_ (by first | omega | (simp; done) | (simp; omega)) _ | refine Below.trans ?_ (Below.mono (by assumption) (by first | omega | (simp; done) | (simp; omega)))))⟩
  have h2 : nd (nums s) = s.size := by omega
  have hd : ∀ k, k < s.size → 48 ≤ (nums s).getD k 0 ∧ (nums s).getD k 0 ≤ 57 := fun k hk => nd_digit _ k (by omega)
  have r3 : readAt (nums s) = 0 := by unfold readAt; rw [nums_len, if_neg h0, if_neg h1]
  have g0 := nums_get s 0 (by omega)
  rw [h2] at HND
  have hlt : ¬ s.size < s.size := by omega
  have hpos : 0 < s.size := by omega
  by_cases h3 : 1 < s.size ∧ (nums s).getD 0 0 = 48
  · have e1 : readV (nums s) = 0 := by unfold readV; rw [nums_len, if_neg h0, if_neg h1, if_pos h3]
    have e2 : readE (nums s) = 5 := by unfold readE; rw [nums_len, if_neg h0, if_neg h1, if_pos h3]
    rw [e1, e2, r3]
    obtain ⟨h3, h4⟩ := h3
    rw [g0] at h4
    have h5 : (((s[0]).toNat : Int) == 48) = true := by rw [h4]; rfl
    clear e1 e2 r3 h0 hle h1 h2 hd g0 h4
    go_enter Try.func161, Try.ntmps161
    go_wp2_with fail
    refine (HND.out _).mono ?_
    rintro e w1 ⟨rfl, hw⟩
    subst hw
    go_wp2
    exact bodyPost_ret (v := .tuple #[.agg #[.int .u64 0, .int .u64 0], .agg #[.int .i64 5, .int .i64 0]]) (by simp [results, Try.results161, go_sem]) rfl ⟨rfl, (by repeat (first | assumption | exact Below.refl _ _ | refine Below.setCell ?_ (by first | omega | (simp; done) | (simp; omega)) _ | refine below_drewN ?_ _ | refine Below.drew ?_ | refine Below.alloc ?_ (by first | omega | (simp; done) | (simp; omega)) _ | refine Below.trans ?_ (Below.mono (by assumption) (by first | omega | (simp; done) | (simp; omega)))))⟩
  have hpass : ¬ 1 < s.size ∨ (1 < s.size ∧ (((s[0]).toNat : Int) == 48) = false) := by
    by_cases h4 : 1 < s.size
    · refine .inr ⟨h4, ?_⟩
      rw [beq_eq_false_iff_ne]
      intro h5
      exact h3 ⟨h4, by rw [g0]; exact h5⟩
    · exact .inl h4
  have hw16 : 0 ≤ readV (nums s) := by
    unfold readV numOf
    rw [nums_len]
    have := numTo_nonneg (nums s) s.size hd
    repeat' split
    all_goals omega
  by_cases h39 : 39 < s.size
  · have hbig : 340282366920938463463374607431768211456 ≤ numOf (nums s) := by
      have hne : (nums s).getD 0 0 ≠ 48 := fun h => h3 ⟨by omega, h⟩
      have := numTo_big (nums s) hne (s.size - 1) (fun j hj => hd j (by omega))
      rw [show s.size - 1 + 1 = s.size by omega] at this
      have hp := pow_ge (s.size - 1 - 39)
      rw [show 39 + (s.size - 1 - 39) = s.size - 1 by omega] at hp
      unfold numOf
      rw [nums_len]
      omega
    have e1 : readV (nums s) = 0 := by unfold readV; rw [nums_len, if_neg h0, if_neg h1, if_neg h3, if_pos hbig]
    have e2 : readE (nums s) = 3 := by unfold readE; rw [nums_len, if_neg h0, if_neg h1, if_neg h3, if_pos hbig]
    rw [e1, e2, r3]
    rcases hpass with h4 | ⟨h4, h5⟩
    · omega
    clear e1 e2 r3 h0 hle h1 h2 hd g0 h3 hbig hw16
    go_enter Try.func161, Try.ntmps161
    go_wp2_with fail
    refine (HND.out _).mono ?_
    rintro e w1 ⟨rfl, hw⟩
    subst hw
    go_wp2
    exact bodyPost_ret (v := .tuple #[.agg #[.int .u64 0, .int .u64 0], .agg #[.int .i64 3, .int .i64 0]]) (by simp [results, Try.results161, go_sem]) rfl ⟨rfl, (by repeat (first | assumption | exact Below.refl _ _ | refine Below.setCell ?_ (by first | omega | (simp; done) | (simp; omega)) _ | refine below_drewN ?_ _ | refine Below.drew ?_ | refine Below.alloc ?_ (by first | omega | (simp; done) | (simp; omega)) _ | refine Below.trans ?_ (Below.mono (by assumption) (by first | omega | (simp; done) | (simp; omega)))))⟩
  have kc := fun (wx : World) => run_bytes_of_string (P := Try.prog) wx 9 32 5 s Try.underlying9 Try.underlying32 Try.underlying5
  have hp39 : ¬ 39 < s.size := h39
  have HD := hide hd
  by_cases hbig : 340282366920938463463374607431768211456 ≤ numOf (nums s)
  · have e1 : readV (nums s) = 0 := by unfold readV; rw [nums_len, if_neg h0, if_neg h1, if_neg h3, if_pos hbig]
    have e2 : readE (nums s) = 3 := by unfold readE; rw [nums_len, if_neg h0, if_neg h1, if_neg h3, if_pos hbig]
    have HR := hide (wRes_full hbig)
    rw [e1, e2, r3]
    rcases hpass with h4 | ⟨h4, h5⟩
    all_goals
      clear e1 e2 r3 h0 hle h1 h2 hd g0 h3 hbig hw16 h39
      go_enter Try.func161, Try.ntmps161
      go_wp2_with fail
      refine (HND.out _).mono ?_
      rintro e w1 ⟨rfl, hw⟩
      subst hw
      go_wp2_with fail
      refine (fold_num (nums s) _ 0 s.size _ _ (nums_len s).symm hs HD.out (fun k hk => row_cell _ _ _ _ _ _ _ (by simp) hk) (by simp)).mono ?_
      rintro e w1 ⟨rfl, hb⟩
      rw [HR.out]
      have hz := hb.size
      simp only [World.size_drew, World.size_alloc] at hz
      have c0 := (hb.cell (p := ⟨w.heap.size, 0, none⟩) (by first | (simp; done) | (simp; omega))).trans (c := some (.int .u64 0)) (by simp [go_sem])
      have c1 := (hb.cell (p := ⟨w.heap.size, 1, none⟩) (by first | (simp; done) | (simp; omega))).trans (c := some (.int .u64 0)) (by simp [go_sem])
      have c2 := (hb.cell (p := ⟨w.heap.size + 1, 0, none⟩) (by first | (simp; done) | (simp; omega))).trans (c := some (.int .i64 0)) (by simp [go_sem])
      have c3 := (hb.cell (p := ⟨w.heap.size + 1, 1, none⟩) (by first | (simp; done) | (simp; omega))).trans (c := some (.int .i64 0)) (by simp [go_sem])
      have f0 := (hb.frozen (p := ⟨w.heap.size, 0, none⟩) (by first | (simp; done) | (simp; omega))).trans (c := false) (by simp [go_sem])
      have f1 := (hb.frozen (p := ⟨w.heap.size, 1, none⟩) (by first | (simp; done) | (simp; omega))).trans (c := false) (by simp [go_sem])
      have f2 := (hb.frozen (p := ⟨w.heap.size + 1, 0, none⟩) (by first | (simp; done) | (simp; omega))).trans (c := false) (by simp [go_sem])
      have f3 := (hb.frozen (p := ⟨w.heap.size + 1, 1, none⟩) (by first | (simp; done) | (simp; omega))).trans (c := false) (by simp [go_sem])
      have hB : Below w.heap.size w w1 := (by repeat (first | assumption | exact Below.refl _ _ | refine Below.setCell ?_ (by first | omega | (simp; done) | (simp; omega)) _ | refine below_drewN ?_ _ | refine Below.drew ?_ | refine Below.alloc ?_ (by first | omega | (simp; done) | (simp; omega)) _ | refine Below.trans ?_ (Below.mono (by assumption) (by first | omega | (simp; done) | (simp; omega)))))
      clear hb
      have hz0 : w.heap.size < w1.heap.size := by omega
      have hz1 : w.heap.size + 1 < w1.heap.size := by omega
      go_wp2
      exact bodyPost_ret (v := .tuple #[.agg #[.int .u64 0, .int .u64 0], .agg #[.int .i64 3, .int .i64 0]]) (by simp [results, Try.results161, go_sem, c0, c1, c2, c3, hz0, hz1]) rfl ⟨rfl, (by repeat (first | assumption | exact Below.refl _ _ | refine Below.setCell ?_ (by first | omega | (simp; done) | (simp; omega)) _ | refine below_drewN ?_ _ | refine Below.drew ?_ | refine Below.alloc ?_ (by first | omega | (simp; done) | (simp; omega)) _ | refine Below.trans ?_ (Below.mono (by assumption) (by first | omega | (simp; done) | (simp; omega)))))⟩
  · have e1 : readV (nums s) = numOf (nums s) := by unfold readV; rw [nums_len, if_neg h0, if_neg h1, if_neg h3, if_neg hbig]
    have e2 : readE (nums s) = 0 := by unfold readE; rw [nums_len, if_neg h0, if_neg h1, if_neg h3, if_neg hbig]
    have HR := hide (wRes_ok (V := numOf (nums s)) (by rw [← e1]; exact hw16) (by omega))
    rw [e1, e2, r3]
    obtain ⟨x, ex⟩ : ∃ x, x = numOf (nums s) / 18446744073709551616 := ⟨_, rfl⟩
    obtain ⟨y, ey⟩ : ∃ y, y = numOf (nums s) % 18446744073709551616 := ⟨_, rfl⟩
    rw [← ex, ← ey] at HR ⊢
    rcases hpass with h4 | ⟨h4, h5⟩
    all_goals
      clear e1 e2 r3 h0 hle h1 h2 hd g0 h3 hbig hw16 h39 ex ey
      go_enter Try.func161, Try.ntmps161
      go_wp2_with fail
      refine (HND.out _).mono ?_
      rintro e w1 ⟨rfl, hw⟩
      subst hw
      go_wp2_with fail
      refine (fold_num (nums s) _ 0 s.size _ _ (nums_len s).symm hs HD.out (fun k hk => row_cell _ _ _ _ _ _ _ (by simp) hk) (by simp)).mono ?_
      rintro e w1 ⟨rfl, hb⟩
      rw [HR.out]
      have hz := hb.size
      simp only [World.size_drew, World.size_alloc] at hz
      have c0 := (hb.cell (p := ⟨w.heap.size, 0, none⟩) (by first | (simp; done) | (simp; omega))).trans (c := some (.int .u64 0)) (by simp [go_sem])
      have c1 := (hb.cell (p := ⟨w.heap.size, 1, none⟩) (by first | (simp; done) | (simp; omega))).trans (c := some (.int .u64 0)) (by simp [go_sem])
      have c2 := (hb.cell (p := ⟨w.heap.size + 1, 0, none⟩) (by first | (simp; done) | (simp; omega))).trans (c := some (.int .i64 0)) (by simp [go_sem])
      have c3 := (hb.cell (p := ⟨w.heap.size + 1, 1, none⟩) (by first | (simp; done) | (simp; omega))).trans (c := some (.int .i64 0)) (by simp [go_sem])
      have f0 := (hb.frozen (p := ⟨w.heap.size, 0, none⟩) (by first | (simp; done) | (simp; omega))).trans (c := false) (by simp [go_sem])
      have f1 := (hb.frozen (p := ⟨w.heap.size, 1, none⟩) (by first | (simp; done) | (simp; omega))).trans (c := false) (by simp [go_sem])
      have f2 := (hb.frozen (p := ⟨w.heap.size + 1, 0, none⟩) (by first | (simp; done) | (simp; omega))).trans (c := false) (by simp [go_sem])
      have f3 := (hb.frozen (p := ⟨w.heap.size + 1, 1, none⟩) (by first | (simp; done) | (simp; omega))).trans (c := false) (by simp [go_sem])
      have hB : Below w.heap.size w w1 := (by repeat (first | assumption | exact Below.refl _ _ | refine Below.setCell ?_ (by first | omega | (simp; done) | (simp; omega)) _ | refine below_drewN ?_ _ | refine Below.drew ?_ | refine Below.alloc ?_ (by first | omega | (simp; done) | (simp; omega)) _ | refine Below.trans ?_ (Below.mono (by assumption) (by first | omega | (simp; done) | (simp; omega)))))
      clear hb
      have hz0 : w.heap.size < w1.heap.size := by omega
      have hz1 : w.heap.size + 1 < w1.heap.size := by omega
      go_wp2
      exact bodyPost_ret (v := .tuple #[.agg #[.int .u64 x, .int .u64 y], .agg #[.int .i64 0, .int .i64 0]]) (by simp [results, Try.results161, go_sem, c0, c1, c2, c3, hz0, hz1]) rfl ⟨rfl, (by repeat (first | assumption | exact Below.refl _ _ | refine Below.setCell ?_ (by first | omega | (simp; done) | (simp; omega)) _ | refine below_drewN ?_ _ | refine Below.drew ?_ | refine Below.alloc ?_ (by first | omega | (simp; done) | (simp; omega)) _ | refine Below.trans ?_ (Below.mono (by assumption) (by first | omega | (simp; done) | (simp; omega)))))⟩

end WideG
end Go.Proofs.Ytackcnncjeajpaa
