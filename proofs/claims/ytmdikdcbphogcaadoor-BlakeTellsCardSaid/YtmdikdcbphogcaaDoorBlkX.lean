/-
  Texts of hashes: which text a hash is, and back; texts stand to one another as hashes do. (Pure.)
-/
import Derived.Test.YtmdikdcbphogcaaDoorBlkP
namespace Go.Proofs.YtmdikdcbphogcaaDoor
namespace BlkX
open Go.Lib
open BlkM BlkI BlkL BlkO BlkP HexM
def hexU (d : Nat) : UInt8 := UInt8.ofNat (hexd d).toNat
theorem hexU_lt : ∀ d, d < 16 → ∀ e, e < 16 → (hexU d < hexU e ↔ d < e) ∧ (hexU d = hexU e ↔ d = e) := by decide +kernel
theorem dN_hexU (d : Nat) (h : d < 16) : dN (hexU d) = d := (dN_hexd d h).1
theorem hexU_dN (c : UInt8) (h : dN c < 16) : hexU (dN c) = c := by
  unfold hexU
  rw [hexd_dN c h]
  simp
def tb (l : List Int) : List UInt8 := (tx l).map fun n => UInt8.ofNat n.toNat
theorem tb_cons (x : Int) (l : List Int) : tb (x :: l) = hexU (x.toNat / 16) :: hexU (x.toNat % 16) :: tb l := rfl
theorem tb_text (l : List Int) : (hashText l).data.toList = tb l := list_str (tx l)
theorem tb_len (l : List Int) : (tb l).length = 2 * l.length := by unfold tb; rw [List.length_map, tx_len]
theorem tb_get : ∀ (l : List Int) (i : Nat), i < l.length → (tb l).getD (2 * i) 0 = hexU ((l.getD i 0).toNat / 16) ∧ (tb l).getD (2 * i + 1) 0 = hexU ((l.getD i 0).toNat % 16)
  | [], i, h => by simp at h
  | x :: l, 0, _ => ⟨rfl, rfl⟩
  | x :: l, i + 1, h => by
    rw [tb_cons, show 2 * (i + 1) = 2 * i + 1 + 1 by omega, show 2 * i + 1 + 1 + 1 = (2 * i + 1) + 1 + 1 by omega]
    exact tb_get l i (by simpa using h)
theorem nat_of_rng {l : List Int} (h : rng l) (i : Nat) : (l.getD i 0).toNat < 256 := by
  have := rng_get h i
  omega
theorem hx_text (l : List Int) (hl : l.length = 32) (hr : rng l) (i : Nat) (hi : i < 32) : hx (hashText l) (2 * i) = (l.getD i 0).toNat / 16 ∧ hx (hashText l) (2 * i + 1) = (l.getD i 0).toNat % 16 := by
  have h := tb_get l i (by omega)
  have hn := nat_of_rng hr i
  unfold hx
  rw [tb_text, h.1, h.2]
  exact ⟨dN_hexU _ (by omega), dN_hexU _ (by omega)⟩
theorem ok_text (l : List Int) (hl : l.length = 32) (hr : rng l) : okS (hashText l) := by
  refine ⟨hashText_size l hl, fun j hj => ?_⟩
  have hn := nat_of_rng hr (j / 2)
  have h := hx_text l hl hr (j / 2) (by omega)
  rcases Nat.mod_two_eq_zero_or_one j with e | e
  · rw [show j = 2 * (j / 2) by omega, h.1]; omega
  · rw [show j = 2 * (j / 2) + 1 by omega, h.2]; omega
theorem rd_text (l : List Int) (hl : l.length = 32) (hr : rng l) : rdL (hashText l) = l := by
  apply List.ext_getElem
  · unfold rdL; rw [rp_len, hl]
  · intro i h1 h2
    have hi : i < 32 := by omega
    have h := hx_text l hl hr i hi
    have e1 : ∀ h, (rdL (hashText l))[i]'h = rpv (hashText l) 64 i := fun h => by simp [rdL, rp]
    have hg := rng_get hr i
    have e2 : l.getD i 0 = l[i] := by rw [List.getD_eq_getElem?_getD, List.getElem?_eq_getElem h2]; rfl
    refine (e1 h1).trans ?_
    unfold rpv
    rw [if_pos (by omega), h.1, h.2, ← e2]
    omega
theorem rd_rng (s : ByteArray) (h : okS s) : rng (rdL s) := by
  intro x hx'
  unfold rdL rp at hx'
  obtain ⟨i, hi, rfl⟩ := List.mem_map.1 hx'
  rw [List.mem_range] at hi
  unfold rpv
  rw [if_pos (by omega)]
  have h1 := h.2 (2 * i) (by omega)
  have h2 := h.2 (2 * i + 1) (by omega)
  omega
theorem text_rd (s : ByteArray) (h : okS s) : hashText (rdL s) = s := by
  have hl : (rdL s).length = 32 := rp_len s 64
  have key : (hashText (rdL s)).data.toList = s.data.toList := by
    rw [tb_text]
    apply List.ext_getElem
    · rw [tb_len, hl, Array.length_toList]; exact h.1.symm
    · intro j h1 h2
      have hj : j < 64 := by rw [tb_len, hl] at h1; omega
      have hi : j / 2 < 32 := by omega
      have hg := tb_get (rdL s) (j / 2) (by omega)
      have hv : (rdL s).getD (j / 2) 0 = ((hx s (2 * (j / 2)) * 16 + hx s (2 * (j / 2) + 1) : Nat) : Int) := by
        unfold rdL
        rw [rp_get s 64 _ hi]
        unfold rpv
        rw [if_pos (by omega)]
      have a1 := h.2 (2 * (j / 2)) (by omega)
      have a2 := h.2 (2 * (j / 2) + 1) (by omega)
      rw [hv, Int.toNat_natCast, show (hx s (2 * (j / 2)) * 16 + hx s (2 * (j / 2) + 1)) / 16 = hx s (2 * (j / 2)) by omega, show (hx s (2 * (j / 2)) * 16 + hx s (2 * (j / 2) + 1)) % 16 = hx s (2 * (j / 2) + 1) by omega] at hg
      have e1 : (tb (rdL s)).getD j 0 = hexU (hx s j) := by
        rcases Nat.mod_two_eq_zero_or_one j with e | e
        · have := hg.1
          rwa [show 2 * (j / 2) = j by omega] at this
        · have := hg.2
          rwa [show 2 * (j / 2) + 1 = j by omega] at this
      rw [List.getD_eq_getElem?_getD, List.getElem?_eq_getElem h1] at e1
      have e2 : s.data.toList.getD j 0 = s.data.toList[j] := by rw [List.getD_eq_getElem?_getD, List.getElem?_eq_getElem h2]; rfl
      have e3 := h.2 j hj
      have e4 : hexU (hx s j) = s.data.toList[j] := by
        rw [← e2]
        exact hexU_dN _ e3
      rw [← e4]
      exact e1
  apply ByteArray.ext
  exact Array.ext' key

/-! ### The order -/
theorem u8_lt (a b : Nat) (ha : a < 256) (hb : b < 256) : (a.toUInt8 < b.toUInt8) ↔ a < b := by
  rw [UInt8.lt_iff_toNat_lt]
  simp [Nat.mod_eq_of_lt ha, Nat.mod_eq_of_lt hb]
theorem cmp_cons (x y : Int) (l m : List Int) (hx' : x.toNat < 256) (hy : y.toNat < 256) : cmpI (x :: l) (y :: m) = if x.toNat < y.toNat then -1 else if y.toNat < x.toNat then 1 else cmpI l m := by
  show (if x.toNat.toUInt8 < y.toNat.toUInt8 then (-1 : Int) else if y.toNat.toUInt8 < x.toNat.toUInt8 then 1 else compareBytes (bts l) (bts m)) = _
  simp only [u8_lt _ _ hx' hy, u8_lt _ _ hy hx']
  rfl
theorem less_all : ∀ l m : List Int, l.length = m.length → rng l → rng m →
    Op.bytesLess (tb l) (tb m) = decide (cmpI l m = -1) ∧ (tb l = tb m ↔ l = m) ∧ (cmpI l m = 0 ↔ l = m) ∧ cmpI m l = -cmpI l m ∧ (cmpI l m = -1 ∨ cmpI l m = 0 ∨ cmpI l m = 1)
  | [], [], _, _, _ => ⟨by decide, by simp, by decide, by decide, by decide⟩
  | x :: l, y :: m, h, hl, hm => by
    obtain ⟨i1, i2, i3, i4, i5⟩ := less_all l m (by simpa using h) (fun z hz => hl z (by simp [hz])) (fun z hz => hm z (by simp [hz]))
    have rx := hl x (by simp)
    have ry := hm y (by simp)
    obtain ⟨X, rfl⟩ := Int.eq_ofNat_of_zero_le rx.1
    obtain ⟨Y, rfl⟩ := Int.eq_ofNat_of_zero_le ry.1
    have hX : X < 256 := by omega
    have hY : Y < 256 := by omega
    rw [tb_cons, tb_cons, cmp_cons _ _ l m (by simpa using hX) (by simpa using hY), cmp_cons _ _ m l (by simpa using hY) (by simpa using hX)]
    simp only [Int.toNat_natCast]
    obtain ⟨p1, p2⟩ := hexU_lt (X / 16) (by omega) (Y / 16) (by omega)
    obtain ⟨p3, p4⟩ := hexU_lt (X % 16) (by omega) (Y % 16) (by omega)
    simp only [Op.bytesLess, List.cons.injEq, p2, p4]
    have q1 : decide (hexU (X / 16) < hexU (Y / 16)) = decide (X / 16 < Y / 16) := decide_eq_decide.2 p1
    have q2 : (hexU (X / 16) == hexU (Y / 16)) = decide (X / 16 = Y / 16) := by rw [Bool.eq_iff_iff]; simp [p2]
    have q3 : decide (hexU (X % 16) < hexU (Y % 16)) = decide (X % 16 < Y % 16) := decide_eq_decide.2 p3
    have q4 : (hexU (X % 16) == hexU (Y % 16)) = decide (X % 16 = Y % 16) := by rw [Bool.eq_iff_iff]; simp [p4]
    rw [q1, q2, q3, q4, i1]
    rcases Nat.lt_trichotomy X Y with c | c | c
    · rw [if_pos c, if_neg (by omega), if_pos c]
      refine ⟨?_, ?_, by simp; omega, by decide, by decide⟩
      · rcases Nat.lt_or_ge (X / 16) (Y / 16) with d | d
        · simp [d]
        · have e : X / 16 = Y / 16 := by omega
          have f : X % 16 < Y % 16 := by omega
          simp [e, f]
      · constructor
        · rintro ⟨e, f, _⟩; exfalso; omega
        · rintro ⟨e, _⟩; exfalso; omega
    · subst c
      rw [if_neg (by omega), if_neg (by omega), if_neg (by omega), if_neg (by omega)]
      refine ⟨by simp, by simp [i2], by simp [i3], i4, i5⟩
    · rw [if_neg (by omega), if_pos c, if_pos c]
      refine ⟨?_, ?_, by simp; omega, by decide, by decide⟩
      · rcases Nat.lt_or_ge (Y / 16) (X / 16) with d | d
        · have e : ¬ X / 16 < Y / 16 := by omega
          have f : ¬ X / 16 = Y / 16 := by omega
          simp [e, f]
        · have e : X / 16 = Y / 16 := by omega
          have f : ¬ X % 16 < Y % 16 := by omega
          have g : ¬ X % 16 = Y % 16 := by omega
          simp [e, f, g]
      · constructor
        · rintro ⟨e, f, _⟩; exfalso; omega
        · rintro ⟨e, _⟩; exfalso; omega
theorem toList_text (l : List Int) : (hashText l).toList = tb l := by rw [toList_data, tb_text]
/-- How two hashes stand, and their texts. -/
theorem ord3 (a b : List Int) (la : a.length = 32) (lb : b.length = 32) (ra : rng a) (rb : rng b) :
    (Op.bytesLess (hashText a).toList (hashText b).toList = true ∧ cmpI a b = -1 ∧ cmpI b a = 1 ∧ decide (a = b) = false) ∨
    (Op.bytesLess (hashText a).toList (hashText b).toList = false ∧ ((hashText a).toList == (hashText b).toList) = true ∧ cmpI a b = 0 ∧ cmpI b a = 0 ∧ decide (a = b) = true) ∨
    (Op.bytesLess (hashText a).toList (hashText b).toList = false ∧ ((hashText a).toList == (hashText b).toList) = false ∧ cmpI a b = 1 ∧ cmpI b a = -1 ∧ decide (a = b) = false) := by
  obtain ⟨i1, i2, i3, i4, i5⟩ := less_all a b (by omega) ra rb
  rw [toList_text, toList_text, i1]
  rcases i5 with h | h | h
  · left
    refine ⟨by simp [h], h, by rw [i4, h]; rfl, ?_⟩
    have : ¬ a = b := fun e => by have := i3.2 e; omega
    simp [this]
  · right; left
    have e := i3.1 h
    refine ⟨by simp [h], ?_, h, by rw [i4, h]; rfl, by simp [e]⟩
    rw [beq_iff_eq]
    exact i2.2 e
  · right; right
    have ne : ¬ a = b := fun e => by have := i3.2 e; omega
    refine ⟨by simp [h], ?_, h, by rw [i4, h], by simp [ne]⟩
    rw [beq_eq_false_iff_ne]
    exact fun e => ne (i2.1 e)
end BlkX
end Go.Proofs.YtmdikdcbphogcaaDoor
