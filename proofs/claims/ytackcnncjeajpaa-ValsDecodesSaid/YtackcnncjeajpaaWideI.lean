/-
  The iterator of digits, and Text.
-/
import Derived.Test.YtackcnncjeajpaaWideT
import Derived.Test.YtackcnncjeajpaaSeq
import Derived.Laws.BytesArg
import Derived.OneCell
namespace Go.Proofs.Ytackcnncjeajpaa
open Go.RowKit Go.Shelf
namespace WideI
open WideA WideB WideT
open Go.Proofs.Ytackcnncjeajpaa.Seq
attribute [local go_sem] Oper.semAt_some

/-- The decimal digits of a number as bytes, from the last one on. -/
def digs : Nat → Int → List Int
  | 0, _ => []
  | f + 1, V => (48 + V % 10) :: (if V / 10 = 0 then [] else digs f (V / 10))

/-- The digits that are still to come behind one that leaves R. -/
def more (f : Nat) (R : Int) : List Int := if R = 0 then [] else digs f R
theorem digs_more (f : Nat) (V : Int) : digs (f + 1) V = (48 + V % 10) :: more f (V / 10) := rfl
theorem more_zero (f : Nat) : more f 0 = [] := by simp [more]
theorem more_succ (f : Nat) (R : Int) (h : R ≠ 0) : more (f + 1) R = (48 + R % 10) :: more f (R / 10) := by
  unfold more
  rw [if_neg h]
  rfl

/-- A block of two words. -/
theorem two_cells {W : World} {b : Nat} {x y : Value} {t : TypeId} (h : W.heap[b]? = some (.cells #[x, y] t (0, 0))) :
    W.cell? ⟨b, 0, none⟩ = some x ∧ W.cell? ⟨b, 1, none⟩ = some y ∧ W.frozen? ⟨b, 0, none⟩ = false ∧ W.frozen? ⟨b, 1, none⟩ = false := by
  refine ⟨?_, ?_, ?_, ?_⟩ <;> simp [World.cell?, World.frozen?, h]
theorem two_put {W : World} {b : Nat} {x y : Value} {t : TypeId} (x' y' : Value) (h : W.heap[b]? = some (.cells #[x, y] t (0, 0))) :
    ((W.setCell ⟨b, 0, none⟩ x').setCell ⟨b, 1, none⟩ y').heap[b]? = some (.cells #[x', y'] t (0, 0)) := by
  have h1 := heap_setCell_same W b 0 #[x, y] t x' h
  have h2 := heap_setCell_same _ b 1 _ t y' h1
  simpa using h2

/-- The number in a box. -/
def boxNat (W : World) (b : Nat) : Nat :=
  match W.cell? ⟨b, 0, none⟩, W.cell? ⟨b, 1, none⟩ with
  | some (.int _ h), some (.int _ l) => (h * 18446744073709551616 + l).toNat
  | _, _ => 0
theorem boxNat_of {W : World} {b : Nat} {h l : Int} {t : TypeId} (hb : W.heap[b]? = some (.cells #[.int .u64 h, .int .u64 l] t (0, 0))) : boxNat W b = (h * 18446744073709551616 + l).toNat := by
  obtain ⟨h1, h2, _, _⟩ := two_cells hb
  unfold boxNat
  rw [h1, h2]

/-- What stands at the head of a round of the iterator. -/
def Round (B r3 : Nat) (V : Int) (J : List Int → World → Prop) (d : Value) (U : World) : Prop :=
  ∃ (pre : List Int) (f : Nat) (h l dd : Int), d = .int .u8 dd ∧ 0 ≤ dd ∧ dd ≤ 9 ∧ 0 ≤ h ∧ h < 18446744073709551616 ∧ 0 ≤ l ∧ l < 18446744073709551616 ∧ h * 18446744073709551616 + l < 10 ^ f ∧ Hid (pre ++ (48 + dd) :: more f (h * 18446744073709551616 + l) = digs 39 V) ∧
    U.heap[r3]? = some (.cells #[.int .u64 h, .int .u64 l] 98 (0, 0)) ∧ J pre U ∧ B ≤ r3

set_option maxHeartbeats 2000000 in
/-- The iterator of digits' contract. -/
theorem digits_gives (n : Nat) (ab : Nat) (hi lo : Int) (hil : 0 ≤ hi) (hiu : hi < 18446744073709551616) (lol : 0 ≤ lo) (lou : lo < 18446744073709551616) (w0 : World) (hab : ab < w0.heap.size)
    (hbox : w0.heap[ab]? = some (.cells #[.int .u64 hi, .int .u64 lo] 98 (0, 0))) :
    Gives n Try.prog 193 #[.pointer (some ⟨ab, 0, none⟩)] (fun x : Int => #[.int .u8 x]) (fun _ _ => True) (fun xs => xs = digs 39 (hi * 18446744073709551616 + lo)) (fun xs => xs <+: digs 39 (hi * 18446744073709551616 + lo)) w0 := by
  intro l J Jx W hB hJ hJx hY h0
  have hbox1 : W.heap[ab]? = some (.cells #[.int .u64 hi, .int .u64 lo] 98 (0, 0)) := (hB.block _ hab).trans hbox
  obtain ⟨b0, b1, f0, f1⟩ := two_cells hbox1
  refine callsIn_of_wp Try.func193 rfl trivial ?_
  simp only [Try.ntmps193, List.size_toArray, List.length_cons, List.length_nil, Nat.reduceAdd, Nat.reduceSub, Array.replicate_succ, Array.replicate_zero, List.push_toArray, List.append_toArray, List.nil_append, List.cons_append]
  obtain ⟨V, hV⟩ : ∃ V, V = hi * 18446744073709551616 + lo := ⟨_, rfl⟩
  have TT := tenth_any hi lo
  rw [← hV] at TT hY ⊢
  have HT := hide (fun W => TT W hil hiu lol lou)
  have HV := hide hV
  have HJ := hide hJ
  have HJx := hide hJx
  have HY := hide hY
  clear hJ hJx hY TT hV
  gi_wp2_with fail
  refine ⟨trivial, fun h => by simp [Fence.wide] at h, ?_⟩
  refine (callsIn_wide.2 (HT.out _)).mono ?_
  rintro e w1 ⟨rfl, hw1⟩
  obtain ⟨r3, hr3⟩ : ∃ r3, r3 = w1.heap.size := ⟨_, rfl⟩
  have hBr : W.heap.size ≤ r3 := by rw [hr3]; exact hw1.size
  have hnew := World.alloc_heap_new w1 (.cells #[.int .u64 (V / 10 / 18446744073709551616), .int .u64 (V / 10 % 18446744073709551616)] 98)
  have hst : Round W.heap.size r3 V J (.int .u8 (V % 10)) (w1.alloc (.cells #[.int .u64 (V / 10 / 18446744073709551616), .int .u64 (V / 10 % 18446744073709551616)] 98)) := by
    have hV := HV.out
    refine ⟨[], 38, V / 10 / 18446744073709551616, V / 10 % 18446744073709551616, V % 10, rfl, by omega, by omega, by omega, by omega, by omega, by omega, by omega, hide ?_, by rw [hr3]; exact hnew, HJ.out _ _ _ h0 (hw1.trans ((Below.refl _ _).alloc hw1.size _)), hBr⟩
    rw [show V / 10 / 18446744073709551616 * 18446744073709551616 + V / 10 % 18446744073709551616 = V / 10 by omega]
    rfl
  have HST := hide hst
  clear hst hnew b0 b1 f0 f1 hbox1 hbox
  gi_wp2_with fail
  rw [← hr3]
  have HR3 := hide hr3
  clear hr3
  gi_loopw [4] (fun d wr => Round W.heap.size r3 V J d wr ∧ r3 < wr.heap.size) (fun _ wr => boxNat wr r3)
  case atStart => exact ⟨HST.out, by rw [HR3.out]; simp⟩
  case round =>
    obtain ⟨⟨pre, f, h, l', dd, rfl, d1, d2, h1, h2, l1, l2, hf, hdig, hbx, hJs, _⟩, hlt⟩ := hrel
    obtain ⟨q0, q1, g0, g1⟩ := two_cells hbx
    have hpre : pre ++ [48 + dd] <+: digs 39 V := ⟨more f (h * 18446744073709551616 + l'), by simpa using hdig.out⟩
    obtain ⟨fn, tmps, assign, body, hy, hR⟩ := HY.out pre (48 + dd) wr hJs hpre
    have HP := hide hpre
    clear hpre
    by_cases hz : h * 18446744073709551616 + l' = 0
    · obtain rfl : h = 0 := by omega
      obtain rfl : l' = 0 := by omega
      have hall : pre ++ [48 + dd] = digs 39 V := by have := hdig.out; rw [hz, more_zero] at this; exact this
      have HA := hide hall
      clear hall hz
      gi_wp2_with fail
      refine ⟨fun h => by simp [Fence.wide] at h, hR.mono ?_⟩
      rintro e U' (⟨rfl, hJ2, hk, _⟩ | ⟨rfl, hJx2⟩)
      · have hb2 : U'.heap[r3]? = some (.cells #[.int .u64 0, .int .u64 0] 98 (0, 0)) := (hk.2 r3 hBr hlt).trans hbx
        obtain ⟨q2, q3, g2, g3⟩ := two_cells hb2
        gi_wp2
        go_end0
        exact ⟨⟨_, rfl⟩, .inl ⟨_, HA.out, hJ2⟩⟩
      · gi_wp2
        go_end0
        exact ⟨⟨_, rfl⟩, .inr ⟨_, HP.out, hJx2⟩⟩
    · obtain ⟨f, rfl⟩ : ∃ g, f = g + 1 := by
        cases f with
        | zero => exact absurd hf (by simp; omega)
        | succ g => exact ⟨g, rfl⟩
      obtain ⟨R, hRR⟩ : ∃ R, R = h * 18446744073709551616 + l' := ⟨_, rfl⟩
      rw [← hRR] at hf hdig hz
      have TT := tenth_any h l'
      rw [← hRR] at TT
      have HT2 := hide (fun W => TT W h1 h2 l1 l2)
      have hp10 : (10 : Int) ^ (f + 1) = 10 ^ f * 10 := Int.pow_succ _ _
      have hlt2 : R / 10 < 10 ^ f := by rw [hp10] at hf; omega
      have hd2 : (pre ++ [48 + dd]) ++ (48 + R % 10) :: more f (R / 10) = digs 39 V := by
        have := hdig.out
        rw [more_succ f R hz] at this
        simpa using this
      have HD := hide hd2
      have HF := hide hlt2
      have HRR := hide hRR
      clear TT hp10 hlt2 hd2 hRR hf hdig
      by_cases hh : h = 0
      · subst hh
        have hl : ¬ l' = 0 := by have := HRR.out; omega
        clear hz
        gi_wp2_with fail
        refine ⟨fun h => by simp [Fence.wide] at h, hR.mono ?_⟩
        rintro e U' (⟨rfl, hJ2, hk, _⟩ | ⟨rfl, hJx2⟩)
        · have hb2 : U'.heap[r3]? = some (.cells #[.int .u64 0, .int .u64 l'] 98 (0, 0)) := (hk.2 r3 hBr hlt).trans hbx
          have hs2 : wr.heap.size ≤ U'.heap.size := hk.1
          obtain ⟨q2, q3, g2, g3⟩ := two_cells hb2
          have hbx0 := hbx
          clear hk q0 q1 g0 g1 hbx
          gi_wp2_with fail
          refine ⟨trivial, fun h => by simp [Fence.wide] at h, ?_⟩
          refine (callsIn_wide.2 (HT2.out _)).mono ?_
          rintro e w2 ⟨rfl, hw2⟩
          have hb3 : w2.heap[r3]? = some (.cells #[.int .u64 0, .int .u64 l'] 98 (0, 0)) := (hw2.block r3 (by omega)).trans hb2
          have hs3 : r3 < w2.heap.size := by have := hw2.size; omega
          have hJ3 := HJ.out _ _ _ hJ2 (hw2.mono (by omega))
          obtain ⟨q4, q5, g4, g5⟩ := two_cells hb3
          clear q2 q3 g2 g3 hb2 hw2 hJ2
          gi_wp2
          go_roundw
          case rel =>
            refine ⟨⟨pre ++ [48 + dd], f, R / 10 / 18446744073709551616, R / 10 % 18446744073709551616, R % 10, rfl, by omega, by omega, ?_, ?_, by omega, by omega, ?_, hide ?_, two_put _ _ hb3, HJ.out _ _ _ hJ3 (((Below.refl _ _).setCell (p := ⟨r3, 0, none⟩) hBr _).setCell (p := ⟨r3, 1, none⟩) hBr _), hBr⟩, by simpa using hs3⟩
            · have := HRR.out; omega
            · have := HRR.out; omega
            · rw [show R / 10 / 18446744073709551616 * 18446744073709551616 + R / 10 % 18446744073709551616 = R / 10 by omega]; exact HF.out
            · rw [show R / 10 / 18446744073709551616 * 18446744073709551616 + R / 10 % 18446744073709551616 = R / 10 by omega]; exact HD.out
          case measure =>
            rw [boxNat_of (two_put _ _ hb3), boxNat_of hbx0]
            have := HRR.out
            omega
        · gi_wp2
          go_end0
          exact ⟨⟨_, rfl⟩, .inr ⟨_, HP.out, hJx2⟩⟩
      · clear hz
        gi_wp2_with fail
        refine ⟨fun h => by simp [Fence.wide] at h, hR.mono ?_⟩
        rintro e U' (⟨rfl, hJ2, hk, _⟩ | ⟨rfl, hJx2⟩)
        · have hb2 : U'.heap[r3]? = some (.cells #[.int .u64 h, .int .u64 l'] 98 (0, 0)) := (hk.2 r3 hBr hlt).trans hbx
          have hs2 : wr.heap.size ≤ U'.heap.size := hk.1
          obtain ⟨q2, q3, g2, g3⟩ := two_cells hb2
          have hbx0 := hbx
          clear hk q0 q1 g0 g1 hbx
          gi_wp2_with fail
          refine ⟨trivial, fun h => by simp [Fence.wide] at h, ?_⟩
          refine (callsIn_wide.2 (HT2.out _)).mono ?_
          rintro e w2 ⟨rfl, hw2⟩
          have hb3 : w2.heap[r3]? = some (.cells #[.int .u64 h, .int .u64 l'] 98 (0, 0)) := (hw2.block r3 (by omega)).trans hb2
          have hs3 : r3 < w2.heap.size := by have := hw2.size; omega
          have hJ3 := HJ.out _ _ _ hJ2 (hw2.mono (by omega))
          obtain ⟨q4, q5, g4, g5⟩ := two_cells hb3
          clear q2 q3 g2 g3 hb2 hw2 hJ2
          gi_wp2
          go_roundw
          case rel =>
            refine ⟨⟨pre ++ [48 + dd], f, R / 10 / 18446744073709551616, R / 10 % 18446744073709551616, R % 10, rfl, by omega, by omega, ?_, ?_, by omega, by omega, ?_, hide ?_, two_put _ _ hb3, HJ.out _ _ _ hJ3 (((Below.refl _ _).setCell (p := ⟨r3, 0, none⟩) hBr _).setCell (p := ⟨r3, 1, none⟩) hBr _), hBr⟩, by simpa using hs3⟩
            · have := HRR.out; omega
            · have := HRR.out; omega
            · rw [show R / 10 / 18446744073709551616 * 18446744073709551616 + R / 10 % 18446744073709551616 = R / 10 by omega]; exact HF.out
            · rw [show R / 10 / 18446744073709551616 * 18446744073709551616 + R / 10 % 18446744073709551616 = R / 10 by omega]; exact HD.out
          case measure =>
            rw [boxNat_of (two_put _ _ hb3), boxNat_of hbx0]
            have := HRR.out
            omega
        · gi_wp2
          go_end0
          exact ⟨⟨_, rfl⟩, .inr ⟨_, HP.out, hJx2⟩⟩

/-- The text's room when some digits have come: what is still free, and the digits, the first one last. -/
def row (m : Nat) (pre : List Int) : List Value := List.replicate m (Value.int .u8 0) ++ pre.reverse.map (Value.int .u8)
theorem row_set (m : Nat) (pre : List Int) (x : Int) : (row (m + 1) pre).set m (.int .u8 x) = row m (pre ++ [x]) := by
  unfold row
  rw [List.replicate_succ', List.append_assoc, List.set_append_right _ _ (by simp)]
  simp
theorem row_get (m : Nat) (pre : List Int) (i : Nat) (hi : i < pre.length) : (row m pre)[m + i]? = some (.int .u8 (pre.reverse.getD i 0)) := by
  unfold row
  rw [List.getElem?_append_right (by simp), List.length_replicate, Nat.add_sub_cancel_left, List.getElem?_map, List.getElem?_eq_getElem (show i < pre.reverse.length by simpa using hi)]
  simp only [Option.map_some, List.getD, List.getElem?_eq_getElem (show i < pre.reverse.length by simpa using hi), Option.getD_some]

/-- What stands between two rounds of Text's loop. -/
def Mid (w : World) (bt ba : Nat) (pre : List Int) (U : World) : Prop :=
  ∃ m : Nat, pre.length + m = 39 ∧ U.heap[ba]? = some (.cells #[.int .i64 (m : Int)] 3 (0, 0)) ∧ U.heap[bt]? = some (.cells (row m pre).toArray 177 (0, 0)) ∧ Below w.heap.size w U

theorem digs_len : ∀ (f : Nat) (V : Int), (digs f V).length ≤ f
  | 0, _ => by simp [digs]
  | f + 1, V => by
    unfold digs
    have := digs_len f (V / 10)
    split <;> simp; omega

/-- The text of a number. -/
def textOf (V : Int) : ByteArray := strOfNums (digs 39 V).reverse

set_option maxHeartbeats 400000 in
theorem digits_any (hi lo : Int) (w : World) :
    Calls Try.prog 160 #[.agg #[.int .u64 hi, .int .u64 lo]] w fun e w' => e = .returned (.func (.func 193) #[] #[.pointer (some ⟨w.heap.size, 0, none⟩)]) ∧ w' = w.alloc (.cells #[.int .u64 hi, .int .u64 lo] 98) := by
  go_enter Try.func160, Try.ntmps160
  go_wp2
  go_ret
  exact ⟨rfl, rfl⟩

set_option maxHeartbeats 2000000 in
/-- wide.Text: the decimal digits. -/
theorem text_any (hi lo : Int) (w : World) (hil : 0 ≤ hi) (hiu : hi < 18446744073709551616) (lol : 0 ≤ lo) (lou : lo < 18446744073709551616) :
    Calls Try.prog 77 #[.agg #[.int .u64 hi, .int .u64 lo]] w fun e w' =>
      e = .returned (.string (textOf (hi * 18446744073709551616 + lo))) ∧ Below w.heap.size w w' := by
  refine (callsIn_wide (n := 5)).1 ?_
  refine callsIn_of_wp_marks Try.func77 rfl trivial ?_
  simp only [Try.ntmps77, List.size_toArray, List.length_cons, List.length_nil, Nat.reduceAdd, Nat.reduceSub, Array.replicate_succ, Array.replicate_zero, List.push_toArray, List.append_toArray, List.nil_append, List.cons_append]
  gi_wp2_with fail
  refine ⟨trivial, ?_⟩
  refine (callsIn_wide.2 (digits_any hi lo _)).mono ?_
  rintro e w1 ⟨rfl, hw1⟩
  have hsz : w1.heap.size = w.heap.size + 4 := by rw [hw1]; simp
  have hMid : Mid w (w.heap.size + 1) (w.heap.size + 1 + 1) [] w1 := by
    refine ⟨39, rfl, ?_, ?_, by rw [hw1]; exact (by repeat (first | assumption | exact Below.refl _ _ | refine Below.setCell ?_ (by first | omega | (simp; done) | (simp; omega)) _ | refine below_drewN ?_ _ | refine Below.drew ?_ | refine Below.alloc ?_ (by first | omega | (simp; done) | (simp; omega)) _ | refine Below.trans ?_ (Below.mono (by assumption) (by first | omega | (simp; done) | (simp; omega)))))⟩
    · rw [hw1, Below.heap_alloc _ _ _ (by simp)]
      have := World.alloc_heap_new ((w.alloc (.cells #[.int .u64 hi, .int .u64 lo] 98)).alloc (.cells (row 39 []).toArray 177)) (.cells #[.int .i64 39] 3)
      rw [World.size_alloc, World.size_alloc] at this
      exact this
    · rw [hw1, Below.heap_alloc _ _ _ (by simp), Below.heap_alloc _ _ _ (by simp)]
      have := World.alloc_heap_new (w.alloc (.cells #[.int .u64 hi, .int .u64 lo] 98)) (.cells (row 39 []).toArray 177)
      rw [World.size_alloc] at this
      exact this
  have hbox : w1.heap[w.heap.size + 1 + 1 + 1]? = some (.cells #[.int .u64 hi, .int .u64 lo] 98 (0, 0)) := by
    rw [hw1]
    have := World.alloc_heap_new (((w.alloc (.cells #[.int .u64 hi, .int .u64 lo] 98)).alloc (.cells (row 39 []).toArray 177)).alloc (.cells #[.int .i64 39] 3)) (.cells #[.int .u64 hi, .int .u64 lo] 98)
    rw [World.size_alloc, World.size_alloc, World.size_alloc] at this
    exact this
  clear hw1
  gi_wp2_with fail
  refine Seq.range (gf := 193) (lb := #[.pointer (some ⟨w.heap.size + 1 + 1 + 1, 0, none⟩)]) rfl (enters_of Try.func193 (by kernel_rfl) rfl)
    (digits_gives _ (w.heap.size + 1 + 1 + 1) hi lo hil hiu lol lou w1 (by omega) hbox) (by decide) (fun _ _ => trivial) (fun _ _ _ _ _ _ => trivial) (Below.refl _ _) (fun _ => rfl)
    (fun pre U => Mid w (w.heap.size + 1) (w.heap.size + 1 + 1) pre U) (fun _ _ _ => False)
    (fun s A C h hB => by
      obtain ⟨m, h1, h2, h3, h4⟩ := h
      exact ⟨m, h1, (hB.block _ (by omega)).trans h2, (hB.block _ (by omega)).trans h3, h4.trans (hB.mono (by omega))⟩)
    (fun _ _ _ _ h _ => h.elim) hMid
    (fun x => { tmps := #[.agg #[.int .u64 hi, .int .u64 lo], .pointer (some ⟨w.heap.size, 0, none⟩), .string ⟨#[]⟩, .pointer (some ⟨w.heap.size + 1, 0, none⟩), .pointer (some ⟨w.heap.size + 1 + 1, 0, none⟩), .int .u8 x, .agg #[.int .u64 hi, .int .u64 lo], .func (.func 193) #[] #[.pointer (some ⟨w.heap.size + 1 + 1 + 1, 0, none⟩)], .int .u8 x, undef, undef, undef, undef, undef, undef, undef, undef], defers := [] }) ?assign ?body ?done ?stop
  case assign =>
    intro l x W K hK
    gi_wp2
    exact hK
  case body =>
    rintro l pre x W ⟨m, hm, ha, ht, hB⟩ hsp hsz2
    have hl : (pre ++ [x]).length ≤ 39 := Nat.le_trans hsp.length_le (digs_len _ _)
    obtain ⟨j, rfl⟩ : ∃ j, m = j + 1 := ⟨m - 1, by simp at hl; omega⟩
    have c0 := cell_of_one ha
    have f0 := free_of_one ha
    have c1 : W.cell? ⟨w.heap.size + 1, j, none⟩ = some (.int .u8 0) := by simp [World.cell?, ht, row, List.getElem?_append]
    have f1 : W.frozen? ⟨w.heap.size + 1, j, none⟩ = false := by simp [World.frozen?, ht]
    gi_wp2
    refine ⟨((Keeps.refl _ _).setCell (p := ⟨w.heap.size + 1 + 1, 0, none⟩) (by show w.heap.size + 1 + 1 < _; omega) _).setCell (p := ⟨w.heap.size + 1, j, none⟩) (by show w.heap.size + 1 < _; omega) _, trivial, j, by simp; omega, ?_, ?_, (hB.setCell (p := ⟨w.heap.size + 1 + 1, 0, none⟩) (by show w.heap.size ≤ w.heap.size + 1 + 1; omega) _).setCell (p := ⟨w.heap.size + 1, j, none⟩) (by show w.heap.size ≤ w.heap.size + 1; omega) _⟩
    · rw [Below.heap_setCell _ _ _ _ (by show w.heap.size + 1 + 1 ≠ w.heap.size + 1; omega)]
      exact one_setCell ha
    · have h1 : (W.setCell ⟨w.heap.size + 1 + 1, 0, none⟩ (.int .i64 (j : Int))).heap[w.heap.size + 1]? = some (.cells (row (j + 1) pre).toArray 177 (0, 0)) := by
        rw [Below.heap_setCell _ _ _ _ (by show w.heap.size + 1 ≠ w.heap.size + 1 + 1; omega)]
        exact ht
      rw [heap_setCell_same _ _ _ _ _ _ h1, List.setIfInBounds_toArray, row_set]
  case done =>
    rintro D ys W hD rfl ⟨m, hm, ha, ht, hB⟩ hK
    have hl := digs_len 39 (hi * 18446744073709551616 + lo)
    have c0 := cell_of_one ha
    have hpos : 1 ≤ (digs 39 (hi * 18446744073709551616 + lo)).length := by rw [digs_more]; simp
    have hm2 : m ≤ 38 := by omega
    have hsl : ∀ Y : World, (Instr.sliceAt 177 (.pointer (some ⟨w.heap.size + 1, 0, none⟩)) (some (.int .i64 (m : Int))) none none).run Try.prog Y = .ok (.slice (some ⟨w.heap.size + 1, m, none⟩) (39 - m) (39 - m)) Y := by
      intro Y
      have e : Try.prog.arrayLen 177 = 39 := by kernel_rfl
      have s1 : (sizeOf (Try.prog.elem 177)).run Try.prog Y = .ok 1 Y := by kernel_rfl
      rw [run_sliceAt_array_l Y 177 ⟨w.heap.size + 1, 0, none⟩ (by kernel_rfl) .i64 (m : Int) (by omega) (by rw [e]; omega), e, s1]
      have hne : ¬ 39 = m := by omega
      by_cases h0 : m = 0
      · subst h0
        simp [Result.andThen, slicedAt, Addr.add]
      · simp [Result.andThen, slicedAt, Addr.add, hne, h0]
    have hconv : ∀ n c, n = (digs 39 (hi * 18446744073709551616 + lo)).reverse.length → (convert 32 9 (.slice (some ⟨w.heap.size + 1, m, none⟩) n c)).run Try.prog W = .ok (.string (textOf (hi * 18446744073709551616 + lo))) W := by
      intro n c hn
      refine run_convert_bytes_arg W 32 5 Try.underlying32 Try.underlying5 (w.heap.size + 1) m n c (digs 39 (hi * 18446744073709551616 + lo)).reverse hn.symm ?_ 9 Try.underlying9
      intro i hi2
      rw [hn, List.length_reverse] at hi2
      have := row_get m (digs 39 (hi * 18446744073709551616 + lo)) i hi2
      simp [World.cell?, ht, this]
    have hcv := hconv (39 - m) (39 - m) (by simp; omega)
    gi_wp2
    refine ⟨by simp, .inl ⟨_, _, rfl, run_takeDeferred hK, ?_⟩⟩
    exact ⟨_, results_tmp rfl _ _ _, rfl, hB.trans (belowK_b (w := w) (Nat.le_refl _) W D _ _ (by omega) hK rfl rfl)⟩
  case stop =>
    rintro D c pre W _ _ h _
    exact h.elim

end WideI
end Go.Proofs.Ytackcnncjeajpaa
