/-
  WrtA, IterM, HdA, HdB, HdC, HdE, in one text.
-/
import Derived.Test.YtfmegeibnjmfpaaDoorPdG
import Derived.Test.YtfmegeibnjmfpaaDoorWirS
import Derived.Laws.RangeAny
import Derived.Test.YtfmegeibnjmfpaaDoorPdD
import Derived.Deep.MidRow
namespace Go.Proofs.YtfmegeibnjmfpaaDoor
namespace ValJ
open Go.RowKit
open BlkM WirM WirS
open WirA (WSt Wrote putZ putE)
open WirD (numB numB_len nb_le nb)
open WirE (newB_nil NewB)
open WirX (Thg Bag BW bw_of wtr bag_wtr own bag_own)
open WirAA (box bag_box)

theorem numB_le (n : Int) (h : n < 18446744073709551616) : (numB n).length ≤ 9 := by
  rw [numB_len n h]
  have := nb_le n h
  omega
theorem w_ok {lim : Int} {ys news : List Int} (hl : ((ys.length + news.length : Nat) : Int) ≤ lim) : putE lim 0 ys news.length = 0 ∧ putZ lim 0 ys news = ys ++ news := by
  have h : putE lim 0 ys news.length = 0 := by
    unfold putE
    rw [if_neg (by simp), if_neg (by omega)]
  exact ⟨h, by unfold putZ; rw [if_pos h]⟩
/-- A writing call on the first writer, which has room. -/
def Wr (w0 : World) (l : List Thg) (W : Nat) (lim : Int) (ys : List Int) (e : Ending) (w' : World) : Prop := e = .returned (.int .i64 0) ∧ ∃ v', Bag w0 w' (wtr W lim v' ys 0 :: l)
theorem w_num {w0 w : World} {l : List Thg} {W : Nat} {lim : Int} {v : Value} {ys : List Int} (n : Int) (h : Bag w0 w (wtr W lim v ys 0 :: l)) (h0 : 0 ≤ n) (h1 : n < 9223372036854775808) (hl : ((ys.length + (numB n).length : Nat) : Int) ≤ lim) :
    Calls Tryd.prog 54 #[.pointer (some ⟨W, 0, none⟩), .int .i64 n] w (Wr w0 l W lim (ys ++ numB n)) := by
  obtain ⟨e1, e2⟩ := w_ok hl
  have C := bw_of h (WirE.num_any w W lim v ys 0 n h0 h1 h.head)
  rw [e1, e2] at C
  exact C
theorem w_text {w0 w : World} {l : List Thg} {W : Nat} {lim : Int} {v : Value} {ys : List Int} (s : ByteArray) (h : Bag w0 w (wtr W lim v ys 0 :: l)) (hm : s.size ≤ 1099511627776) (hl : ((ys.length + (numB s.size ++ WirE.tb s).length : Nat) : Int) ≤ lim) :
    Calls Tryd.prog 53 #[.pointer (some ⟨W, 0, none⟩), .string s] w (Wr w0 l W lim (ys ++ (numB s.size ++ WirE.tb s))) := by
  obtain ⟨e1, e2⟩ := w_ok hl
  have C := bw_of h (WirE.text_any w W lim v ys 0 s hm h.head)
  rw [e1, e2] at C
  exact C
theorem w_hash {w0 w : World} {l : List Thg} {W : Nat} {lim : Int} {v : Value} {ys : List Int} (hs : List Int) (hh : hs.length = 32) (h : Bag w0 w (wtr W lim v ys 0 :: l)) (hl : ((ys.length + hs.length : Nat) : Int) ≤ lim) :
    Calls Tryd.prog 56 #[.pointer (some ⟨W, 0, none⟩), .agg (b8 hs).toArray] w (Wr w0 l W lim (ys ++ hs)) := by
  obtain ⟨e1, e2⟩ := w_ok hl
  have C := bw_of h (WirF.hash_any w W lim v ys 0 hs hh h.head)
  rw [e1, e2] at C
  exact C
end ValJ
end Go.Proofs.YtfmegeibnjmfpaaDoor

namespace Go.Proofs.YtfmegeibnjmfpaaDoor
namespace IterM
open Go.RowKit
open BlkM WirM WirS

def setIter (W : World) (K : Nat) (s : ByteArray) (pos : Nat) : World := { W with heap := W.heap.setIfInBounds K (.stringIter s pos) }
theorem setIter_size (W : World) (K : Nat) (s : ByteArray) (pos : Nat) : (setIter W K s pos).heap.size = W.heap.size := by simp [setIter]
theorem setIter_same (W : World) (K : Nat) (s : ByteArray) (pos : Nat) (o : Obj) (h : W.heap[K]? = some o) : (setIter W K s pos).heap[K]? = some (.stringIter s pos) := by
  have hl := (Array.getElem?_eq_some_iff.1 h).1
  simp [setIter, hl]
theorem setIter_other (W : World) (K k : Nat) (s : ByteArray) (pos : Nat) (h : k ≠ K) : (setIter W K s pos).heap[k]? = W.heap[k]? := by
  simp [setIter, Ne.symm h]
theorem below_setIter {B : Nat} {a w : World} (h : Below B a w) {K : Nat} (hK : B ≤ K) (s : ByteArray) (pos : Nat) : Below B a (setIter w K s pos) :=
  h.trans ⟨rfl, rfl, rfl, by rw [setIter_size]; exact Nat.le_refl _, fun k hk => setIter_other w K k s pos (by omega)⟩
theorem next_at {P : Program} (W : World) (K : Nat) (s : ByteArray) (pos : Nat) (ty : TypeId) (hk : W.heap[K]? = some (.stringIter s pos)) (h : pos < s.size) (ha : (s[pos]'h).toNat < 128) :
    (Instr.next (.pointer (some ⟨K, 0, none⟩)) true ty).run P W = .ok (.tuple #[.bool true, .int .i64 pos, .int .i32 (s[pos]'h).toNat]) (setIter W K s (pos + 1)) := by
  simp only [Instr.next, getObj, setObj, Sem.run_bind, Sem.run, hk, Result.andThen, h, if_true, decode_ascii s pos h ha]
  simp [goInt, setIter]
theorem next_any_at {P : Program} (W : World) (K : Nat) (s : ByteArray) (pos : Nat) (ty : TypeId) (hk : W.heap[K]? = some (.stringIter s pos)) (h : pos < s.size) :
    (Instr.next (.pointer (some ⟨K, 0, none⟩)) true ty).run P W = .ok (.tuple #[.bool true, .int .i64 pos, .int .i32 (Utf8.decode s pos).1]) (setIter W K s (pos + (Utf8.decode s pos).2)) := by
  simp only [Instr.next, getObj, setObj, Sem.run_bind, Sem.run, hk, Result.andThen, h, if_true]
  simp [goInt, setIter]
theorem next_end_at {P : Program} (W : World) (K : Nat) (s : ByteArray) (pos : Nat) (ty : TypeId) (hk : W.heap[K]? = some (.stringIter s pos)) (h : ¬ pos < s.size) :
    (Instr.next (.pointer (some ⟨K, 0, none⟩)) true ty).run P W = .ok (.tuple #[.bool false]) W := by
  simp [Instr.next, getObj, Sem.run, hk, h]
theorem iterPos_at (W : World) (K : Nat) (s : ByteArray) (p : Nat) (h : W.heap[K]? = some (.stringIter s p)) : W.iterPos K = p := by simp [World.iterPos, h]
theorem heapNew (w : World) (o : Obj) : (w.alloc o).heap[w.heap.size]? = some o := by
  show (w.heap.push _)[_]? = _
  simp
end IterM
end Go.Proofs.YtfmegeibnjmfpaaDoor

namespace Go.Proofs.YtfmegeibnjmfpaaDoor
namespace HdA
open Go.RowKit
open BlkM WirM WirS IterM

/-- May a name have this byte? -/
def okc (x : Int) : Bool := decide (97 ≤ x) && decide (x ≤ 122) || decide (48 ≤ x) && decide (x ≤ 57) || decide (x = 45)
theorem okc_ascii {x : Int} (h : okc x = true) : 0 ≤ x ∧ x < 128 := by
  simp [okc] at h
  omega
theorem okc_high {x : Int} (h : 128 ≤ x) : okc x = false := by
  simp [okc]
  omega
theorem allowed_any (w : World) (r : Int) : Calls Tryd.prog 63 #[.int .i32 r] w fun e w' => e = .returned (.bool (okc r)) ∧ w = w' := by
  obtain h | h | h | h | h | h | h : r < 45 ∨ r = 45 ∨ (46 ≤ r ∧ r ≤ 47) ∨ (48 ≤ r ∧ r ≤ 57) ∨ (58 ≤ r ∧ r ≤ 96) ∨ (97 ≤ r ∧ r ≤ 122) ∨ 123 ≤ r := by omega
  · have e : okc r = false := by simp [okc]; omega
    rw [e]
    have a1 : ¬ (97 : Int) ≤ r := by omega
    have a2 : ¬ (48 : Int) ≤ r := by omega
    have a3 : (r == 45) = false := by simp; omega
    have a1' : decide ((97 : Int) ≤ r) = false := by simpa using a1
    have a2' : decide ((48 : Int) ≤ r) = false := by simpa using a2
    clear h e
    go_enter Tryd.func63, Tryd.ntmps63
    go_wp2_with fail
    go_ret
    exact ⟨rfl, rfl⟩
  · subst h
    go_enter Tryd.func63, Tryd.ntmps63
    go_wp2_with fail
    go_ret
    exact ⟨rfl, rfl⟩
  · have e : okc r = false := by simp [okc]; omega
    rw [e]
    have a1 : ¬ (97 : Int) ≤ r := by omega
    have a2 : ¬ (48 : Int) ≤ r := by omega
    have a3 : (r == 45) = false := by simp; omega
    have a1' : decide ((97 : Int) ≤ r) = false := by simpa using a1
    have a2' : decide ((48 : Int) ≤ r) = false := by simpa using a2
    clear h e
    go_enter Tryd.func63, Tryd.ntmps63
    go_wp2_with fail
    go_ret
    exact ⟨rfl, rfl⟩
  · have e : okc r = true := by simp [okc]; omega
    rw [e]
    have a1 : ¬ (97 : Int) ≤ r := by omega
    have a2 : (48 : Int) ≤ r := by omega
    have a4 : r ≤ 57 := by omega
    have a1' : decide ((97 : Int) ≤ r) = false := by simpa using a1
    have a2' : decide ((48 : Int) ≤ r) = true := by simpa using a2
    have a4' : decide (r ≤ 57) = true := by simpa using a4
    clear h e
    go_enter Tryd.func63, Tryd.ntmps63
    go_wp2_with fail
    go_ret
    exact ⟨rfl, rfl⟩
  · have e : okc r = false := by simp [okc]; omega
    rw [e]
    have a1 : ¬ (97 : Int) ≤ r := by omega
    have a2 : (48 : Int) ≤ r := by omega
    have a3 : (r == 45) = false := by simp; omega
    have a4 : ¬ r ≤ 57 := by omega
    have a1' : decide ((97 : Int) ≤ r) = false := by simpa using a1
    have a2' : decide ((48 : Int) ≤ r) = true := by simpa using a2
    have a4' : decide (r ≤ 57) = false := by simpa using a4
    clear h e
    go_enter Tryd.func63, Tryd.ntmps63
    go_wp2_with fail
    go_ret
    exact ⟨rfl, rfl⟩
  · have e : okc r = true := by simp [okc]; omega
    rw [e]
    have a1 : (97 : Int) ≤ r := by omega
    have a3 : r ≤ 122 := by omega
    have a1' : decide ((97 : Int) ≤ r) = true := by simpa using a1
    have a3' : decide (r ≤ 122) = true := by simpa using a3
    clear h e
    go_enter Tryd.func63, Tryd.ntmps63
    go_wp2_with fail
    go_ret
    exact ⟨rfl, rfl⟩
  · have e : okc r = false := by simp [okc]; omega
    rw [e]
    have a1 : (97 : Int) ≤ r := by omega
    have a2 : (48 : Int) ≤ r := by omega
    have a3 : ¬ r ≤ 122 := by omega
    have a4 : ¬ r ≤ 57 := by omega
    have a5 : (r == 45) = false := by simp; omega
    have a1' : decide ((97 : Int) ≤ r) = true := by simpa using a1
    have a2' : decide ((48 : Int) ≤ r) = true := by simpa using a2
    have a3' : decide (r ≤ 122) = false := by simpa using a3
    have a4' : decide (r ≤ 57) = false := by simpa using a4
    clear h e
    go_enter Tryd.func63, Tryd.ntmps63
    go_wp2_with fail
    go_ret
    exact ⟨rfl, rfl⟩
/-- Bytes of a text. -/
def bt (s : ByteArray) (i : Nat) : Int := if h : i < s.size then ((s[i]'h).toNat : Int) else 0
/-- Each byte of it may be in a name. -/
def allc (s : ByteArray) : Bool := decide (∀ i, i < s.size → okc (bt s i) = true)
def nameB (s : ByteArray) : Bool := decide (0 < s.size) && decide (s.size ≤ 32) && allc s
def MidN (w : World) (K : Nat) (s : ByteArray) (U : World) : Prop :=
  ∃ k : Nat, k ≤ s.size ∧ U.heap[K]? = some (.stringIter s k) ∧ (∀ i, i < k → okc (bt s i) = true) ∧ Below w.heap.size w U
set_option maxRecDepth 10000 in
set_option maxHeartbeats 2000000 in
theorem consists_any (w : World) (s : ByteArray) (hs : s.size ≤ 1000000) : Calls Tryd.prog 62 #[.string s, .func (.func 63) #[] #[]] w fun e w' => e = .returned (.bool (allc s)) ∧ Below w.heap.size w w' := by
  have HA := WirS.hide (fun U r => allowed_any U r)
  have HST := WirS.hide (show MidN w w.heap.size s (w.alloc (.stringIter s 0)) from ⟨0, Nat.zero_le _, heapNew w _, fun i h => absurd h (Nat.not_lt_zero i), Below.alloc (Below.refl _ _) (Nat.le_refl _) _⟩)
  obtain ⟨res, hres⟩ : ∃ b, allc s = b := ⟨_, rfl⟩
  rw [hres]
  have HRES := WirS.hide hres
  have HSZ := WirS.hide hs
  clear hres hs
  go_enter Tryd.func62, Tryd.ntmps62
  go_wp2_with fail
  go_loopw [] (fun wr => MidN w w.heap.size s wr) (fun wr => s.size - wr.iterPos w.heap.size)
  case atStart => exact HST.out
  case round =>
    clear HST
    obtain ⟨k, hk, hit, hok, hB⟩ := hrel
    have HB := WirS.hide hB
    have HOK := WirS.hide hok
    have hKs : w.heap.size < wr.heap.size := (Array.getElem?_eq_some_iff.1 hit).1
    have HIT := WirS.hide hit
    clear hB hok
    by_cases hlt : k < s.size
    · by_cases hc : okc (bt s k) = true
      · have hb : bt s k = ((s[k]'hlt).toNat : Int) := by unfold bt; rw [dif_pos hlt]
        have ha : (s[k]'hlt).toNat < 128 := by have := (okc_ascii hc).2; omega
        have hnx := fun ty => next_at (P := Tryd.prog) wr _ s k ty hit hlt ha
        rw [← hb] at hnx
        have HC := WirS.hide hc
        obtain ⟨x, hx⟩ : ∃ x, bt s k = x := ⟨_, rfl⟩
        have HX := WirS.hide hx
        have HR := WirS.hide (fun U => by have := HA.out U x; rw [show okc x = true by rw [← hx]; exact hc] at this; exact this)
        rw [hx] at hnx
        obtain ⟨W1, hW1⟩ : ∃ W1, W1 = setIter wr w.heap.size s (k + 1) := ⟨_, rfl⟩
        rw [← hW1] at hnx
        have HW1 := WirS.hide hW1
        clear hit hc hb ha hx hW1 HA
        go_wp2_with (go_at_call 63; with_reducible refine (HR.out _).mono ?_; rintro e _ ⟨rfl, rfl⟩)
        go_roundw
        case rel =>
          refine ⟨k + 1, by omega, by rw [HW1.out]; exact setIter_same _ _ _ _ _ HIT.out, fun i hi => ?_, by rw [HW1.out]; exact below_setIter HB.out (Nat.le_refl _) _ _⟩
          rcases Nat.lt_or_ge i k with h | h
          · exact HOK.out i h
          · obtain rfl : i = k := by omega
            exact HC.out
        case measure =>
          rw [HW1.out, iterPos_at _ _ _ _ (setIter_same _ _ _ _ _ HIT.out), iterPos_at _ _ _ _ HIT.out]
          omega
      · have hf : okc (bt s k) = false := by simpa using hc
        have hnx := fun ty => next_any_at (P := Tryd.prog) wr _ s k ty hit hlt
        have hd : okc ((Utf8.decode s k).1 : Int) = false := by
          by_cases ha : (s[k]'hlt).toNat < 128
          · rw [decode_ascii s k hlt ha]
            unfold bt at hf
            rw [dif_pos hlt] at hf
            exact hf
          · have := (decode_high s k hlt (by omega)).1
            exact okc_high (by omega)
        have hr : res = false := by
          rw [← HRES.out]
          unfold allc
          exact decide_eq_false (fun h => hc (h k hlt))
        obtain ⟨x, hx⟩ : ∃ x : Int, ((Utf8.decode s k).1 : Int) = x := ⟨_, rfl⟩
        obtain ⟨d, hd2⟩ : ∃ d, k + (Utf8.decode s k).2 = d := ⟨_, rfl⟩
        rw [hx, hd2] at hnx
        rw [hx] at hd
        have HR := WirS.hide (fun U => by have := HA.out U x; rw [hd] at this; exact this)
        obtain ⟨W1, hW1⟩ : ∃ W1, W1 = setIter wr w.heap.size s d := ⟨_, rfl⟩
        rw [← hW1] at hnx
        have HW1 := WirS.hide hW1
        subst hr
        clear hit hc hf hx hd hd2 hW1 HA
        go_wp2_with (go_at_call 63; with_reducible refine (HR.out _).mono ?_; rintro e _ ⟨rfl, rfl⟩)
        go_ret
        exact ⟨rfl, by rw [HW1.out]; exact below_setIter HB.out (Nat.le_refl _) _ _⟩
    · have hnx := fun ty => next_end_at (P := Tryd.prog) wr _ s k ty hit hlt
      have hr : res = true := by
        rw [← HRES.out]
        unfold allc
        exact decide_eq_true (fun i hi => HOK.out i (by omega))
      subst hr
      clear hit HA
      go_wp2_with fail
      go_ret
      exact ⟨rfl, HB.out⟩
theorem name_any (w : World) (s : ByteArray) (hs : s.size ≤ 9223372036854775807) : Calls Tryd.prog 38 #[.string s] w fun e w' => e = .returned (.bool (nameB s)) ∧ Below w.heap.size w w' := by
  by_cases h0 : 0 < s.size
  · by_cases h1 : s.size ≤ 32
    · have hn : nameB s = allc s := by simp [nameB, h0, h1]
      rw [hn]
      have HC := WirS.hide (fun U => consists_any U s (by omega))
      have d0 : (0 : Int) < (s.size : Int) := by omega
      have d1 : (s.size : Int) ≤ 32 := by omega
      have d0' : decide ((0 : Int) < (s.size : Int)) = true := by simpa using d0
      have d1' : decide ((s.size : Int) ≤ 32) = true := by simpa using d1
      generalize allc s = r at *
      clear hn h0 h1 hs
      go_enter Tryd.func38, Tryd.ntmps38
      go_wp2_with (go_at_call 62; with_reducible refine (HC.out _).mono ?_; rintro e u ⟨rfl, hb⟩; have HB := WirS.hide hb; clear hb)
      go_ret
      exact ⟨by simp, HB.out⟩
    · have hn : nameB s = false := by simp [nameB, h1]
      rw [hn]
      have d0 : (0 : Int) < (s.size : Int) := by omega
      have d1 : ¬ (s.size : Int) ≤ 32 := by omega
      have d0' : decide ((0 : Int) < (s.size : Int)) = true := by simpa using d0
      have d1' : decide ((s.size : Int) ≤ 32) = false := by simpa using d1
      clear hn h0 h1
      go_enter Tryd.func38, Tryd.ntmps38
      go_wp2_with fail
      go_ret
      exact ⟨rfl, Below.refl _ _⟩
  · have hn : nameB s = false := by simp [nameB, h0]
    rw [hn]
    have d0 : ¬ (0 : Int) < (s.size : Int) := by omega
    have d0' : decide ((0 : Int) < (s.size : Int)) = false := by simpa using d0
    clear hn h0
    go_enter Tryd.func38, Tryd.ntmps38
    go_wp2_with fail
    go_ret
    exact ⟨rfl, Below.refl _ _⟩
end HdA
end Go.Proofs.YtfmegeibnjmfpaaDoor

namespace Go.Proofs.YtfmegeibnjmfpaaDoor
namespace HdB
open Go.RowKit
open BlkM WirM WirS HdA

/-- A header: its chain's name, height, time, and its four hashes' bytes. -/
structure Hd where
  ch : ByteArray
  ht : Int
  tm : Int
  hs : List Int
  lh : hs.length = 128
def Hd.cells (t : Hd) : List Value := .string t.ch :: .int .i64 t.ht :: .int .i64 t.tm :: b8 t.hs
theorem Hd.len (t : Hd) : t.cells.length = 131 := by simp [Hd.cells, b8_len, t.lh]
/-- One of its hashes. -/
def Hd.part (t : Hd) (i : Nat) : List Int := (t.hs.drop (32 * i)).take 32
theorem Hd.part_len (t : Hd) (i : Nat) (h : i < 4) : (t.part i).length = 32 := by
  have := t.lh
  simp only [Hd.part, List.length_take, List.length_drop]
  omega
theorem Hd.range {w : World} {X : Nat} {T : TypeId} (t : Hd) (h : At w X T t.cells) (i : Nat) (hi : i < 4) : w.rangeAt X (3 + 32 * i) (b8 (t.part i)) := fun j v hj => by
  have hj2 : j < 32 := by have := (List.getElem?_eq_some_iff.1 hj).1; rw [b8_len, t.part_len i hi] at this; exact this
  rw [h.cell, show 3 + 32 * i + j = (32 * i + j) + 3 by omega]
  show (b8 t.hs)[32 * i + j]? = some v
  rw [← hj]
  simp only [b8, List.getElem?_map, Hd.part, List.getElem?_take, List.getElem?_drop, if_pos hj2]
theorem box_at (w : World) (t : Hd) : At (w.alloc (.cells t.cells.toArray 58)) w.heap.size 58 t.cells := At.new _ _ _
theorem box_below (w : World) (t : Hd) : Below w.heap.size w (w.alloc (.cells t.cells.toArray 58)) := Below.alloc (Below.refl _ _) (Nat.le_refl _) _
/-- What Check says of it. -/
def c1 (t : Hd) : Int := if nameB t.ch = true then 0 else 5
def c2 (t : Hd) : Int := if 1 ≤ t.ht ∧ t.ht ≤ 1073741824 then 0 else 3
def c3 (t : Hd) : Int := if 0 ≤ t.tm ∧ t.tm ≤ 1099511627776 then 0 else 3
def hchk (t : Hd) : Int := if c1 t ≠ 0 then c1 t else if c2 t ≠ 0 then c2 t else c3 t
theorem unless_any (w : World) (b : Bool) (e : Int) : Calls Tryd.prog 85 #[.bool b, .int .i64 e] w fun en w' => en = .returned (.int .i64 (if b = true then 0 else e)) ∧ w = w' := by
  cases b
  · go_enter Tryd.func85, Tryd.ntmps85
    go_wp2_with fail
    go_ret
    exact ⟨by simp, rfl⟩
  · go_enter Tryd.func85, Tryd.ntmps85
    go_wp2_with fail
    go_ret
    exact ⟨by simp, rfl⟩
set_option maxRecDepth 10000 in
theorem req1 (w : World) (t : Hd) (hs : t.ch.size ≤ 9223372036854775807) : Calls Tryd.prog 84 #[.agg t.cells.toArray] w fun e w' => e = .returned (.int .i64 (c1 t)) ∧ Below w.heap.size w w' := by
  obtain ⟨W0, e0⟩ : ∃ X, X = w.alloc (.cells t.cells.toArray 58) := ⟨_, rfl⟩
  have hA : At W0 w.heap.size 58 t.cells := by rw [e0]; exact box_at _ _
  have HB := WirS.hide (show Below w.heap.size w W0 by rw [e0]; exact box_below _ _)
  have k0 : W0.cell? ⟨w.heap.size, 0, none⟩ = some (.string t.ch) := (hA.cell 0).trans rfl
  have HN := WirS.hide (fun U => name_any U t.ch hs)
  have HU := WirS.hide (fun U => unless_any U (nameB t.ch) 5)
  have E0 := WirS.hide e0
  unfold c1
  generalize (if nameB t.ch = true then (0 : Int) else 5) = r at *
  generalize nameB t.ch = nb at *
  clear hA e0 hs
  go_enter Tryd.func84, Tryd.ntmps84
  go_upto_region 1 with fail
  rw [show w.alloc (.cells t.cells.toArray 58) = W0 from E0.out.symm]
  generalize t.ch = ch at *
  clear E0
  go_wp2_with (first | (go_at_call 38; with_reducible refine (HN.out _).mono ?_; rintro e u ⟨rfl, hb⟩; have HB1 := WirS.hide hb; clear hb) | (go_at_call 85; with_reducible refine (HU.out _).mono ?_; rintro e _ ⟨rfl, rfl⟩))
  go_ret
  exact ⟨rfl, HB.out.trans (HB1.out.mono HB.out.size)⟩
set_option maxRecDepth 10000 in
theorem req2 (w : World) (t : Hd) : Calls Tryd.prog 86 #[.agg t.cells.toArray] w fun e w' => e = .returned (.int .i64 (c2 t)) ∧ Below w.heap.size w w' := by
  obtain ⟨W0, e0⟩ : ∃ X, X = w.alloc (.cells t.cells.toArray 58) := ⟨_, rfl⟩
  have hA : At W0 w.heap.size 58 t.cells := by rw [e0]; exact box_at _ _
  have HB := WirS.hide (show Below w.heap.size w W0 by rw [e0]; exact box_below _ _)
  have k0 : W0.cell? ⟨w.heap.size, 1, none⟩ = some (.int .i64 t.ht) := (hA.cell 1).trans rfl
  have HU := WirS.hide (fun U b => unless_any U b 3)
  have E0 := WirS.hide e0
  unfold c2
  obtain ⟨z, hz⟩ : ∃ z, t.ht = z := ⟨_, rfl⟩
  rw [hz] at k0 ⊢
  clear hA e0 hz
  by_cases h1 : (1 : Int) ≤ z
  · by_cases h2 : z ≤ 1073741824
    · rw [if_pos ⟨h1, h2⟩]
      have HU := WirS.hide (show ∀ U, Calls Tryd.prog 85 #[.bool true, .int .i64 3] U fun en w' => en = .returned (.int .i64 0) ∧ U = w' from fun U => HU.out U true)
      have d1 : decide ((1 : Int) ≤ z) = true := by simpa using h1
      have d2 : decide (z ≤ 1073741824) = true := by simpa using h2
      go_enter Tryd.func86, Tryd.ntmps86
      go_upto_region 1 with fail
      rw [show w.alloc (.cells t.cells.toArray 58) = W0 from E0.out.symm]
      clear E0
      go_wp2_with ((go_at_call 85; with_reducible refine (HU.out _).mono ?_; rintro e _ ⟨rfl, rfl⟩))
      go_ret
      exact ⟨rfl, HB.out⟩
    · rw [if_neg (fun h => h2 h.2)]
      have HU := WirS.hide (show ∀ U, Calls Tryd.prog 85 #[.bool false, .int .i64 3] U fun en w' => en = .returned (.int .i64 3) ∧ U = w' from fun U => HU.out U false)
      have d1 : decide ((1 : Int) ≤ z) = true := by simpa using h1
      have d2 : decide (z ≤ 1073741824) = false := by simpa using h2
      go_enter Tryd.func86, Tryd.ntmps86
      go_upto_region 1 with fail
      rw [show w.alloc (.cells t.cells.toArray 58) = W0 from E0.out.symm]
      clear E0
      go_wp2_with ((go_at_call 85; with_reducible refine (HU.out _).mono ?_; rintro e _ ⟨rfl, rfl⟩))
      go_ret
      exact ⟨rfl, HB.out⟩
  · rw [if_neg (fun h => h1 h.1)]
    have HU := WirS.hide (show ∀ U, Calls Tryd.prog 85 #[.bool false, .int .i64 3] U fun en w' => en = .returned (.int .i64 3) ∧ U = w' from fun U => HU.out U false)
    have d1 : decide ((1 : Int) ≤ z) = false := by simpa using h1
    go_enter Tryd.func86, Tryd.ntmps86
    go_upto_region 1 with fail
    rw [show w.alloc (.cells t.cells.toArray 58) = W0 from E0.out.symm]
    clear E0
    go_wp2_with ((go_at_call 85; with_reducible refine (HU.out _).mono ?_; rintro e _ ⟨rfl, rfl⟩))
    go_ret
    exact ⟨rfl, HB.out⟩
set_option maxRecDepth 10000 in
theorem req3 (w : World) (t : Hd) : Calls Tryd.prog 87 #[.agg t.cells.toArray] w fun e w' => e = .returned (.int .i64 (c3 t)) ∧ Below w.heap.size w w' := by
  obtain ⟨W0, e0⟩ : ∃ X, X = w.alloc (.cells t.cells.toArray 58) := ⟨_, rfl⟩
  have hA : At W0 w.heap.size 58 t.cells := by rw [e0]; exact box_at _ _
  have HB := WirS.hide (show Below w.heap.size w W0 by rw [e0]; exact box_below _ _)
  have k0 : W0.cell? ⟨w.heap.size, 2, none⟩ = some (.int .i64 t.tm) := (hA.cell 2).trans rfl
  have HU := WirS.hide (fun U b => unless_any U b 3)
  have E0 := WirS.hide e0
  unfold c3
  obtain ⟨z, hz⟩ : ∃ z, t.tm = z := ⟨_, rfl⟩
  rw [hz] at k0 ⊢
  clear hA e0 hz
  by_cases h1 : (0 : Int) ≤ z
  · by_cases h2 : z ≤ 1099511627776
    · rw [if_pos ⟨h1, h2⟩]
      have HU := WirS.hide (show ∀ U, Calls Tryd.prog 85 #[.bool true, .int .i64 3] U fun en w' => en = .returned (.int .i64 0) ∧ U = w' from fun U => HU.out U true)
      have d1 : decide ((0 : Int) ≤ z) = true := by simpa using h1
      have d2 : decide (z ≤ 1099511627776) = true := by simpa using h2
      go_enter Tryd.func87, Tryd.ntmps87
      go_upto_region 1 with fail
      rw [show w.alloc (.cells t.cells.toArray 58) = W0 from E0.out.symm]
      clear E0
      go_wp2_with ((go_at_call 85; with_reducible refine (HU.out _).mono ?_; rintro e _ ⟨rfl, rfl⟩))
      go_ret
      exact ⟨rfl, HB.out⟩
    · rw [if_neg (fun h => h2 h.2)]
      have HU := WirS.hide (show ∀ U, Calls Tryd.prog 85 #[.bool false, .int .i64 3] U fun en w' => en = .returned (.int .i64 3) ∧ U = w' from fun U => HU.out U false)
      have d1 : decide ((0 : Int) ≤ z) = true := by simpa using h1
      have d2 : decide (z ≤ 1099511627776) = false := by simpa using h2
      go_enter Tryd.func87, Tryd.ntmps87
      go_upto_region 1 with fail
      rw [show w.alloc (.cells t.cells.toArray 58) = W0 from E0.out.symm]
      clear E0
      go_wp2_with ((go_at_call 85; with_reducible refine (HU.out _).mono ?_; rintro e _ ⟨rfl, rfl⟩))
      go_ret
      exact ⟨rfl, HB.out⟩
  · rw [if_neg (fun h => h1 h.1)]
    have HU := WirS.hide (show ∀ U, Calls Tryd.prog 85 #[.bool false, .int .i64 3] U fun en w' => en = .returned (.int .i64 3) ∧ U = w' from fun U => HU.out U false)
    have d1 : decide ((0 : Int) ≤ z) = false := by simpa using h1
    go_enter Tryd.func87, Tryd.ntmps87
    go_upto_region 1 with fail
    rw [show w.alloc (.cells t.cells.toArray 58) = W0 from E0.out.symm]
    clear E0
    go_wp2_with ((go_at_call 85; with_reducible refine (HU.out _).mono ?_; rintro e _ ⟨rfl, rfl⟩))
    go_ret
    exact ⟨rfl, HB.out⟩
/-- The list of what must hold, as it lies. -/
def reqs : List Value := [.func (.func 84) #[] #[], .func (.func 86) #[] #[], .func (.func 87) #[] #[]]
theorem reqs_any (w : World) : Calls Tryd.prog 61 #[] w fun e w' => ∃ B, e = .returned (.slice (some ⟨B, 0, none⟩) 3 3) ∧ (∀ i, i < 3 → w'.cell? ⟨B, i, none⟩ = reqs[i]?) ∧ B < w'.heap.size ∧ Below w.heap.size w w' := by
  go_enter Tryd.func61, Tryd.ntmps61
  go_wp2_with fail
  go_ret
  refine ⟨w.heap.size, rfl, fun i hi => ?_, by simp, Below.alloc (Below.refl _ _) (Nat.le_refl _) _⟩
  have := (At.new w 62 reqs).cell i
  first | exact this | simpa [reqs] using this
end HdB
end Go.Proofs.YtfmegeibnjmfpaaDoor

namespace Go.Proofs.YtfmegeibnjmfpaaDoor
namespace HdC
open Go.RowKit
open BlkM WirM WirS HdA HdB

set_option maxRecDepth 10000 in
set_option maxHeartbeats 4000000 in
theorem check_any (w : World) (t : Hd) (hs : t.ch.size ≤ 9223372036854775807) : Calls Tryd.prog 36 #[.agg t.cells.toArray] w fun e w' => e = .returned (.int .i64 (hchk t)) ∧ Below w.heap.size w w' := by
  obtain ⟨W0, e0⟩ : ∃ X, X = w.alloc (.cells t.cells.toArray 58) := ⟨_, rfl⟩
  have HA := WirS.hide (show At W0 w.heap.size 58 t.cells by rw [e0]; exact box_at _ _)
  have HB := WirS.hide (show Below w.heap.size w W0 by rw [e0]; exact box_below _ _)
  have HQ := WirS.hide (reqs_any W0)
  have E0 := WirS.hide e0
  have HLen := WirS.hide t.len
  have H1 := WirS.hide (fun U => req1 U t hs)
  have H2 := WirS.hide (fun U => req2 U t)
  have H3 := WirS.hide (fun U => req3 U t)
  unfold hchk
  generalize c1 t = a1 at *
  generalize c2 t = a2 at *
  generalize c3 t = a3 at *
  clear e0 hs
  go_enter Tryd.func36, Tryd.ntmps36
  go_upto_region 1 with fail
  rw [show w.alloc (.cells t.cells.toArray 58) = W0 from E0.out.symm]
  clear E0
  go_upto_region 2 with (go_at_call 61; refine (HQ.out).mono ?_; rintro e u ⟨B, rfl, hq, hB, hb⟩; have HA1 := WirS.hide (At.below HA.out hb HA.out.lt); have HB1 := WirS.hide (HB.out.trans (hb.mono HB.out.size)); have q0 : u.cell? ⟨B, 0, none⟩ = some (.func (.func 84) #[] #[]) := hq 0 (by decide); have q1 : u.cell? ⟨B, 1, none⟩ = some (.func (.func 86) #[] #[]) := hq 1 (by decide); have q2 : u.cell? ⟨B, 2, none⟩ = some (.func (.func 87) #[] #[]) := hq 2 (by decide); have HBl := WirS.hide hB; clear hq hb hB)
  refine wp_loop_rounds 4 ?_
  rw [rounds_succ]
  go_upto_region 4 with fail
  refine wp_region_lit ?_
  refine sV (.func (.func 84) #[] #[]) (u) (by kernel_rfl) (by kernel_rfl) ?_
  simp only [Act.put, List.setIfInBounds_toArray, List.set_cons_succ, List.set_cons_zero]
  refine sL (by kernel_rfl) _ _ (by rfl) _ (by kernel_rfl) HA1.out _ _ Tryd.underlying58 rfl (by kernel_rfl) (by rw [HLen.out]) ?_
  simp only [Act.put, List.setIfInBounds_toArray, List.set_cons_succ, List.set_cons_zero]
  refine sC (R := fun w' => Below u.heap.size u w') (by kernel_rfl) (by kernel_rfl) (H1.out u) ?_
  rintro u1 hb
  simp only [Act.put, List.setIfInBounds_toArray, List.set_cons_succ, List.set_cons_zero]
  have HA2 := WirS.hide (At.below HA1.out hb HA1.out.lt)
  have HB2 := WirS.hide (HB1.out.trans (hb.mono HB1.out.size))
  have p0 : u1.cell? ⟨B, 0, none⟩ = some (.func (.func 84) #[] #[]) := (hb.cell (p := ⟨B, 0, none⟩) HBl.out).trans q0
  have p1 : u1.cell? ⟨B, 1, none⟩ = some (.func (.func 86) #[] #[]) := (hb.cell (p := ⟨B, 1, none⟩) HBl.out).trans q1
  have p2 : u1.cell? ⟨B, 2, none⟩ = some (.func (.func 87) #[] #[]) := (hb.cell (p := ⟨B, 2, none⟩) HBl.out).trans q2
  have HBl1 := WirS.hide (Nat.lt_of_lt_of_le HBl.out hb.size)
  clear HBl q0 q1 q2 hb
  have q0 := p0; have q1 := p1; have q2 := p2; clear p0 p1 p2
  have HBl := HBl1
  clear HBl1
  by_cases h1 : a1 = 0
  · have d : (a1 != 0) = false := by simp [h1]
    have HK1 := WirS.hide h1
    clear h1
    go_wp2_with fail
    rw [rounds_succ]
    go_upto_region 4 with fail
    refine wp_region_lit ?_
    refine sV (.func (.func 86) #[] #[]) (u1) (by kernel_rfl) (by kernel_rfl) ?_
    simp only [Act.put, List.setIfInBounds_toArray, List.set_cons_succ, List.set_cons_zero]
    refine sL (by kernel_rfl) _ _ (by rfl) _ (by kernel_rfl) HA2.out _ _ Tryd.underlying58 rfl (by kernel_rfl) (by rw [HLen.out]) ?_
    simp only [Act.put, List.setIfInBounds_toArray, List.set_cons_succ, List.set_cons_zero]
    refine sC (R := fun w' => Below u1.heap.size u1 w') (by kernel_rfl) (by kernel_rfl) (H2.out u1) ?_
    rintro u2 hb
    simp only [Act.put, List.setIfInBounds_toArray, List.set_cons_succ, List.set_cons_zero]
    have HA3 := WirS.hide (At.below HA2.out hb HA2.out.lt)
    have HB3 := WirS.hide (HB2.out.trans (hb.mono HB2.out.size))
    have p0 : u2.cell? ⟨B, 0, none⟩ = some (.func (.func 84) #[] #[]) := (hb.cell (p := ⟨B, 0, none⟩) HBl.out).trans q0
    have p1 : u2.cell? ⟨B, 1, none⟩ = some (.func (.func 86) #[] #[]) := (hb.cell (p := ⟨B, 1, none⟩) HBl.out).trans q1
    have p2 : u2.cell? ⟨B, 2, none⟩ = some (.func (.func 87) #[] #[]) := (hb.cell (p := ⟨B, 2, none⟩) HBl.out).trans q2
    have HBl2 := WirS.hide (Nat.lt_of_lt_of_le HBl.out hb.size)
    clear HBl q0 q1 q2 hb
    have q0 := p0; have q1 := p1; have q2 := p2; clear p0 p1 p2
    have HBl := HBl2
    clear HBl2
    by_cases h2 : a2 = 0
    · have d : (a2 != 0) = false := by simp [h2]
      have HK2 := WirS.hide h2
      clear h2
      go_wp2_with fail
      rw [rounds_succ]
      go_upto_region 4 with fail
      refine wp_region_lit ?_
      refine sV (.func (.func 87) #[] #[]) (u2) (by kernel_rfl) (by kernel_rfl) ?_
      simp only [Act.put, List.setIfInBounds_toArray, List.set_cons_succ, List.set_cons_zero]
      refine sL (by kernel_rfl) _ _ (by rfl) _ (by kernel_rfl) HA3.out _ _ Tryd.underlying58 rfl (by kernel_rfl) (by rw [HLen.out]) ?_
      simp only [Act.put, List.setIfInBounds_toArray, List.set_cons_succ, List.set_cons_zero]
      refine sC (R := fun w' => Below u2.heap.size u2 w') (by kernel_rfl) (by kernel_rfl) (H3.out u2) ?_
      rintro u3 hb
      simp only [Act.put, List.setIfInBounds_toArray, List.set_cons_succ, List.set_cons_zero]
      have HA4 := WirS.hide (At.below HA3.out hb HA3.out.lt)
      have HB4 := WirS.hide (HB3.out.trans (hb.mono HB3.out.size))
      have p0 : u3.cell? ⟨B, 0, none⟩ = some (.func (.func 84) #[] #[]) := (hb.cell (p := ⟨B, 0, none⟩) HBl.out).trans q0
      have p1 : u3.cell? ⟨B, 1, none⟩ = some (.func (.func 86) #[] #[]) := (hb.cell (p := ⟨B, 1, none⟩) HBl.out).trans q1
      have p2 : u3.cell? ⟨B, 2, none⟩ = some (.func (.func 87) #[] #[]) := (hb.cell (p := ⟨B, 2, none⟩) HBl.out).trans q2
      have HBl3 := WirS.hide (Nat.lt_of_lt_of_le HBl.out hb.size)
      clear HBl q0 q1 q2 hb
      have q0 := p0; have q1 := p1; have q2 := p2; clear p0 p1 p2
      have HBl := HBl3
      clear HBl3
      by_cases h3 : a3 = 0
      · have d : (a3 != 0) = false := by simp [h3]
        have HK3 := WirS.hide h3
        clear h3
        go_wp2_with fail
        rw [rounds_succ]
        go_wp2_with fail
        go_ret
        exact ⟨by rw [HK3.out]; rfl, HB4.out⟩
      · have d : (a3 != 0) = true := by simpa using h3
        have HK3 := WirS.hide h3
        clear h3
        go_wp2_with fail
        go_ret
        exact ⟨by first | rfl | rw [HK1.out, HK2.out, if_neg (by decide), if_neg (by decide)], HB4.out⟩
    · have d : (a2 != 0) = true := by simpa using h2
      have HK2 := WirS.hide h2
      clear h2
      go_wp2_with fail
      go_ret
      exact ⟨by first | rfl | rw [HK1.out, if_neg (by decide), if_pos HK2.out], HB3.out⟩
  · have d : (a1 != 0) = true := by simpa using h1
    have HK1 := WirS.hide h1
    clear h1
    go_wp2_with fail
    go_ret
    exact ⟨by first | rfl | rw [if_pos HK1.out], HB2.out⟩
/-- Where its hashes lie. -/
def ptrs (X : Nat) : List Value := [.pointer (some ⟨X, 3, none⟩), .pointer (some ⟨X, 35, none⟩), .pointer (some ⟨X, 67, none⟩), .pointer (some ⟨X, 99, none⟩)]
theorem hashes_any (w : World) (X : Nat) : Calls Tryd.prog 55 #[.pointer (some ⟨X, 0, none⟩)] w fun e w' => e = .returned (.agg (ptrs X).toArray) ∧ Below w.heap.size w w' := by
  go_enter Tryd.func55, Tryd.ntmps55
  go_upto_region 1 with fail
  go_region
  go_wp2_with fail
  refine bodyPost_ret (v := .agg (ptrs X).toArray) (by simp [results, Tryd.results55, go_sem, ptrs]) rfl ?_
  exact ⟨rfl, by repeat' (first | exact Below.refl _ _ | refine Below.setCell ?_ (by simp) _ | refine Below.drew ?_ | refine Below.alloc ?_ (by simp) _)⟩
end HdC
end Go.Proofs.YtfmegeibnjmfpaaDoor

namespace Go.Proofs.YtfmegeibnjmfpaaDoor
namespace HdE
open Go.RowKit
open BlkM WirM WirS HdA HdB HdC
open WirD (numB nb_le)
open WirE (tb newB_nil NewB)
open WirX (Thg Bag wtr bag_wtr)
open WirAA (box bag_box)
open ValJ (numB_le w_num w_text w_hash)

/-- A header's bytes: ahead of its hashes, and all of them. -/
def hpre (t : Hd) : List Int := (numB t.ch.size ++ tb t.ch) ++ numB t.ht ++ numB t.tm
def hform (t : Hd) : List Int := hpre t ++ t.hs
theorem tb_len (s : ByteArray) : (tb s).length = s.size := by simp [tb]
/-- What a valid header has. -/
structure HOk (t : Hd) : Prop where
  name : nameB t.ch = true
  ht : 1 ≤ t.ht ∧ t.ht ≤ 1073741824
  tm : 0 ≤ t.tm ∧ t.tm ≤ 1099511627776
theorem ok_of {t : Hd} (h : hchk t = 0) : HOk t := by
  unfold hchk at h
  by_cases h1 : c1 t = 0
  · rw [h1, if_neg (by decide)] at h
    by_cases h2 : c2 t = 0
    · rw [h2, if_neg (by decide)] at h
      refine ⟨?_, ?_, ?_⟩
      · unfold c1 at h1
        split at h1
        · assumption
        · cases h1
      · unfold c2 at h2
        split at h2
        · assumption
        · cases h2
      · unfold c3 at h
        split at h
        · assumption
        · cases h
    · rw [if_pos h2] at h
      exact absurd h h2
  · rw [if_pos h1] at h
    exact absurd h h1
theorem chk_ok {t : Hd} (h : HOk t) : hchk t = 0 := by
  unfold hchk c1 c2 c3
  rw [if_pos h.name, if_pos h.ht, if_pos h.tm]
  rfl
theorem HOk.size {t : Hd} (h : HOk t) : 0 < t.ch.size ∧ t.ch.size ≤ 32 := by
  have := h.name
  simp [nameB] at this
  exact this.1
theorem hpre_len {t : Hd} (h : HOk t) : (hpre t).length ≤ 59 := by
  have h1 := numB_le t.ch.size (by have := h.size; omega)
  have h2 := numB_le t.ht (by have := h.ht; omega)
  have h3 := numB_le t.tm (by have := h.tm; omega)
  have h4 := h.size
  simp only [hpre, List.length_append, tb_len]
  omega
theorem take_part (t : Hd) (k : Nat) : t.hs.take (32 * k) ++ t.part k = t.hs.take (32 * (k + 1)) := by
  rw [show 32 * (k + 1) = 32 * k + 32 by omega, List.take_add]
  rfl
set_option maxRecDepth 10000 in
set_option maxHeartbeats 4000000 in
theorem encode_bad (w : World) (t : Hd) (hs : t.ch.size ≤ 9223372036854775807) (hc : hchk t ≠ 0) :
    Calls Tryd.prog 31 #[.agg t.cells.toArray] w fun e w' => e = .returned (.tuple #[.slice none 0 0, .int .i64 (hchk t)]) ∧ Below w.heap.size w w' := by
  obtain ⟨W0, e0⟩ : ∃ X, X = w.alloc (.cells t.cells.toArray 58) := ⟨_, rfl⟩
  have HA := WirS.hide (show At W0 w.heap.size 58 t.cells by rw [e0]; exact box_at _ _)
  have HB := WirS.hide (show Below w.heap.size w W0 by rw [e0]; exact box_below _ _)
  have HC := WirS.hide (check_any W0 t hs)
  have E0 := WirS.hide e0
  have HLen := WirS.hide t.len
  generalize hchk t = cd at *
  have hn1 : (cd != 0) = true := by simpa using hc
  clear e0 hs hc
  go_enter Tryd.func31, Tryd.ntmps31
  go_upto_region 1 with fail
  rw [show w.alloc (.cells t.cells.toArray 58) = W0 from E0.out.symm]
  clear E0
  refine wp_region_lit ?_
  refine sL (by kernel_rfl) _ _ (by rfl) _ (by kernel_rfl) HA.out _ _ Tryd.underlying58 rfl (by kernel_rfl) (by rw [HLen.out]) ?_
  simp only [Act.put, List.setIfInBounds_toArray, List.set_cons_succ, List.set_cons_zero]
  refine sC (R := fun w' => Below W0.heap.size W0 w') (by kernel_rfl) (by kernel_rfl) HC.out ?_
  rintro u hb
  simp only [Act.put, List.setIfInBounds_toArray, List.set_cons_succ, List.set_cons_zero]
  have HB1 := WirS.hide (HB.out.trans (hb.mono HB.out.size))
  clear hb
  go_wp2_with fail
  go_ret2
  exact ⟨rfl, HB1.out⟩
set_option maxRecDepth 10000 in
set_option maxHeartbeats 8000000 in
theorem encode_ok (w : World) (t : Hd) (hok : HOk t) :
    Calls Tryd.prog 31 #[.agg t.cells.toArray] w fun e w' => ∃ va vn vc, e = .returned (.tuple #[.slice va vn vc, .int .i64 0]) ∧ WirM.Own w' 5 (.slice va vn vc) (hform t) ∧ NewB w (.slice va vn vc) ∧ Below w.heap.size w w' := by
  obtain ⟨W0, e0⟩ : ∃ X, X = w.alloc (.cells t.cells.toArray 58) := ⟨_, rfl⟩
  have HX := WirS.hide (show Bag w W0 [box 58 w.heap.size t.cells] by rw [e0]; exact bag_box (Bag.nil (Below.refl _ _)) rfl (box_at _ _) (box_below _ _))
  have HC := WirS.hide (check_any W0 t (by have := hok.size; omega))
  rw [chk_ok hok] at HC
  have E0 := WirS.hide e0
  have HLen := WirS.hide t.len
  have HOK := WirS.hide hok
  have HP := WirS.hide (hpre_len hok)
  have g0 : t.cells[0]? = some (.string t.ch) := rfl
  have g1 : t.cells[1]? = some (.int .i64 t.ht) := rfl
  have g2 : t.cells[2]? = some (.int .i64 t.tm) := rfl
  have HL1 := WirS.hide (numB_le t.ch.size (by have := hok.size; omega))
  have HL2 := WirS.hide (numB_le t.ht (by have := hok.ht; omega))
  have HL3 := WirS.hide (numB_le t.tm (by have := hok.tm; omega))
  have HG := WirS.hide (And.intro g0 (And.intro g1 g2))
  clear e0 hok g0 g1 g2
  go_enter Tryd.func31, Tryd.ntmps31
  go_upto_region 1 with fail
  rw [show w.alloc (.cells t.cells.toArray 58) = W0 from E0.out.symm]
  generalize hXe : w.heap.size = X at *
  have HXE := WirS.hide hXe
  clear E0 hXe
  refine wp_region_lit ?_
  refine sL (by kernel_rfl) _ _ (by rfl) _ (by kernel_rfl) HX.out.head _ _ Tryd.underlying58 rfl (by kernel_rfl) (by rw [HLen.out]) ?_
  simp only [Act.put, List.setIfInBounds_toArray, List.set_cons_succ, List.set_cons_zero]
  refine sC (R := fun w' => Below W0.heap.size W0 w') (by kernel_rfl) (by kernel_rfl) HC.out ?_
  rintro u0 hb
  simp only [Act.put, List.setIfInBounds_toArray, List.set_cons_succ, List.set_cons_zero]
  have HX0 := WirS.hide (HX.out.more hb)
  clear hb HX HC
  go_upto_region 7 with ((go_at_call 52; refine (WirF.new_any _ 1048576 (by omega) (by omega)).mono ?_; rintro e u1 ⟨W, rfl, hW, hs, hb⟩; have H1 := WirS.hide (bag_wtr HX0.out hW hs (newB_nil _ _ _) hb); have k0 : u1.cell? ⟨X, 0, none⟩ = some (.string t.ch) := (H1.out.swap.head.cell 0).trans HG.out.1; clear hW hs hb HX0))
  have HT := WirS.hide (w_text t.ch H1.out (by have := HOK.out.size; omega) (by have h1 := HL1.out; have h2 := HOK.out.size; simp only [List.length_append, tb_len, List.length_nil]; omega))
  rw [List.nil_append] at HT
  go_upto_region 8 with ((go_at_call 53; refine (HT.out).mono ?_; rintro e u2 ⟨rfl, v2, hb⟩; have H2 := WirS.hide hb; have k1 : u2.cell? ⟨X, 1, none⟩ = some (.int .i64 t.ht) := (hb.swap.head.cell 1).trans HG.out.2.1; clear hb))
  clear k0 HT H1
  have HT := WirS.hide (w_num t.ht H2.out (by have := HOK.out.ht; omega) (by have := HOK.out.ht; omega) (by have h1 := HL1.out; have h2 := HOK.out.size; have h3 := HL2.out; simp only [List.length_append, tb_len]; omega))
  go_upto_region 9 with ((go_at_call 54; refine (HT.out).mono ?_; rintro e u3 ⟨rfl, v3, hb⟩; have H3 := WirS.hide hb; have k2 : u3.cell? ⟨X, 2, none⟩ = some (.int .i64 t.tm) := (hb.swap.head.cell 2).trans HG.out.2.2; clear hb))
  clear k1 HT H2
  have HT := WirS.hide (w_num t.tm H3.out (by have := HOK.out.tm; omega) (by have := HOK.out.tm; omega) (by have h1 := HL1.out; have h2 := HOK.out.size; have h3 := HL2.out; have h4 := HL3.out; simp only [List.length_append, tb_len]; omega))
  go_upto_region 10 with ((go_at_call 54; refine (HT.out).mono ?_; rintro e u4 ⟨rfl, v4, hb⟩; have H4 := WirS.hide hb; clear hb))
  clear k2 HT H3
  have HS := WirS.hide (show Bag w u4 [wtr W 1048576 v4 (hpre t ++ t.hs.take (32 * 0)) 0, box 58 X t.cells] from by rw [Nat.mul_zero, List.take_zero, List.append_nil]; exact H4.out)
  clear H4
  have HQ := WirS.hide (fun U => hashes_any U X)
  go_upto_region 11 with ((go_at_call 55; refine (HQ.out _).mono ?_; rintro e u5 ⟨rfl, hb⟩; have H0 := WirS.hide (HS.out.more hb); clear hb))
  unfold ptrs
  clear HS HQ
  refine wp_loop_rounds 5 ?_
  rw [rounds_succ]
  go_upto_region 12 with fail
  refine wp_region_lit ?_
  refine sV (.pointer (some ⟨X, 3, none⟩)) (u5) (by kernel_rfl) (by kernel_rfl) ?_
  simp only [Act.put, List.setIfInBounds_toArray, List.set_cons_succ, List.set_cons_zero]
  refine sV (.pointer (some ⟨X, 3, none⟩)) (u5) (by kernel_rfl) (by kernel_rfl) ?_
  simp only [Act.put, List.setIfInBounds_toArray, List.set_cons_succ, List.set_cons_zero]
  go_upto_region 13 with fail
  have HT := WirS.hide (w_hash (t.part 0) (t.part_len 0 (by decide)) H0.out (by have h1 := HP.out; have h2 := t.part_len 0 (by decide); have h3 := t.lh; rw [List.length_append, List.length_take, h2]; omega))
  rw [List.append_assoc, take_part] at HT
  refine wp_region_lit ?_
  refine sV (.pointer (some ⟨W, 0, none⟩)) (u5) (by kernel_rfl) (by kernel_rfl) ?_
  simp only [Act.put, List.setIfInBounds_toArray, List.set_cons_succ, List.set_cons_zero]
  refine sV (.pointer (some ⟨X, 3, none⟩)) (u5) (by kernel_rfl) (by kernel_rfl) ?_
  simp only [Act.put, List.setIfInBounds_toArray, List.set_cons_succ, List.set_cons_zero]
  refine sV (.pointer (some ⟨X, 3, none⟩)) (u5) (by kernel_rfl) (by kernel_rfl) ?_
  simp only [Act.put, List.setIfInBounds_toArray, List.set_cons_succ, List.set_cons_zero]
  refine wpList_load_mid (by rfl) _ _ (by rfl) X 3 (by kernel_rfl) (b8 (t.part 0)) _ (t.range H0.out.swap.head 0 (by decide)) Tryd.underlying26 (by rfl) (by rw [b8_len, t.part_len 0 (by decide)]; kernel_rfl) ?_
  simp only [Act.put, List.setIfInBounds_toArray, List.set_cons_succ, List.set_cons_zero]
  refine sC (R := fun w' => ∃ v', Bag w w' [wtr W 1048576 v' (hpre t ++ t.hs.take (32 * (0 + 1))) 0, box 58 X t.cells]) (by kernel_rfl) (by kernel_rfl) HT.out ?_
  rintro x1 ⟨y1, hb⟩
  simp only [Act.put, List.setIfInBounds_toArray, List.set_cons_succ, List.set_cons_zero]
  have H1 := WirS.hide hb
  clear hb HT
  go_wp2_with fail
  rw [rounds_succ]
  go_upto_region 12 with fail
  refine wp_region_lit ?_
  refine sV (.pointer (some ⟨X, 35, none⟩)) (x1) (by kernel_rfl) (by kernel_rfl) ?_
  simp only [Act.put, List.setIfInBounds_toArray, List.set_cons_succ, List.set_cons_zero]
  refine sV (.pointer (some ⟨X, 35, none⟩)) (x1) (by kernel_rfl) (by kernel_rfl) ?_
  simp only [Act.put, List.setIfInBounds_toArray, List.set_cons_succ, List.set_cons_zero]
  go_upto_region 13 with fail
  have HT := WirS.hide (w_hash (t.part 1) (t.part_len 1 (by decide)) H1.out (by have h1 := HP.out; have h2 := t.part_len 1 (by decide); have h3 := t.lh; rw [List.length_append, List.length_take, h2]; omega))
  rw [List.append_assoc, take_part] at HT
  refine wp_region_lit ?_
  refine sV (.pointer (some ⟨W, 0, none⟩)) (x1) (by kernel_rfl) (by kernel_rfl) ?_
  simp only [Act.put, List.setIfInBounds_toArray, List.set_cons_succ, List.set_cons_zero]
  refine sV (.pointer (some ⟨X, 35, none⟩)) (x1) (by kernel_rfl) (by kernel_rfl) ?_
  simp only [Act.put, List.setIfInBounds_toArray, List.set_cons_succ, List.set_cons_zero]
  refine sV (.pointer (some ⟨X, 35, none⟩)) (x1) (by kernel_rfl) (by kernel_rfl) ?_
  simp only [Act.put, List.setIfInBounds_toArray, List.set_cons_succ, List.set_cons_zero]
  refine wpList_load_mid (by rfl) _ _ (by rfl) X 35 (by kernel_rfl) (b8 (t.part 1)) _ (t.range H1.out.swap.head 1 (by decide)) Tryd.underlying26 (by rfl) (by rw [b8_len, t.part_len 1 (by decide)]; kernel_rfl) ?_
  simp only [Act.put, List.setIfInBounds_toArray, List.set_cons_succ, List.set_cons_zero]
  refine sC (R := fun w' => ∃ v', Bag w w' [wtr W 1048576 v' (hpre t ++ t.hs.take (32 * (1 + 1))) 0, box 58 X t.cells]) (by kernel_rfl) (by kernel_rfl) HT.out ?_
  rintro x2 ⟨y2, hb⟩
  simp only [Act.put, List.setIfInBounds_toArray, List.set_cons_succ, List.set_cons_zero]
  have H2 := WirS.hide hb
  clear hb HT
  go_wp2_with fail
  rw [rounds_succ]
  go_upto_region 12 with fail
  refine wp_region_lit ?_
  refine sV (.pointer (some ⟨X, 67, none⟩)) (x2) (by kernel_rfl) (by kernel_rfl) ?_
  simp only [Act.put, List.setIfInBounds_toArray, List.set_cons_succ, List.set_cons_zero]
  refine sV (.pointer (some ⟨X, 67, none⟩)) (x2) (by kernel_rfl) (by kernel_rfl) ?_
  simp only [Act.put, List.setIfInBounds_toArray, List.set_cons_succ, List.set_cons_zero]
  go_upto_region 13 with fail
  have HT := WirS.hide (w_hash (t.part 2) (t.part_len 2 (by decide)) H2.out (by have h1 := HP.out; have h2 := t.part_len 2 (by decide); have h3 := t.lh; rw [List.length_append, List.length_take, h2]; omega))
  rw [List.append_assoc, take_part] at HT
  refine wp_region_lit ?_
  refine sV (.pointer (some ⟨W, 0, none⟩)) (x2) (by kernel_rfl) (by kernel_rfl) ?_
  simp only [Act.put, List.setIfInBounds_toArray, List.set_cons_succ, List.set_cons_zero]
  refine sV (.pointer (some ⟨X, 67, none⟩)) (x2) (by kernel_rfl) (by kernel_rfl) ?_
  simp only [Act.put, List.setIfInBounds_toArray, List.set_cons_succ, List.set_cons_zero]
  refine sV (.pointer (some ⟨X, 67, none⟩)) (x2) (by kernel_rfl) (by kernel_rfl) ?_
  simp only [Act.put, List.setIfInBounds_toArray, List.set_cons_succ, List.set_cons_zero]
  refine wpList_load_mid (by rfl) _ _ (by rfl) X 67 (by kernel_rfl) (b8 (t.part 2)) _ (t.range H2.out.swap.head 2 (by decide)) Tryd.underlying26 (by rfl) (by rw [b8_len, t.part_len 2 (by decide)]; kernel_rfl) ?_
  simp only [Act.put, List.setIfInBounds_toArray, List.set_cons_succ, List.set_cons_zero]
  refine sC (R := fun w' => ∃ v', Bag w w' [wtr W 1048576 v' (hpre t ++ t.hs.take (32 * (2 + 1))) 0, box 58 X t.cells]) (by kernel_rfl) (by kernel_rfl) HT.out ?_
  rintro x3 ⟨y3, hb⟩
  simp only [Act.put, List.setIfInBounds_toArray, List.set_cons_succ, List.set_cons_zero]
  have H3 := WirS.hide hb
  clear hb HT
  go_wp2_with fail
  rw [rounds_succ]
  go_upto_region 12 with fail
  refine wp_region_lit ?_
  refine sV (.pointer (some ⟨X, 99, none⟩)) (x3) (by kernel_rfl) (by kernel_rfl) ?_
  simp only [Act.put, List.setIfInBounds_toArray, List.set_cons_succ, List.set_cons_zero]
  refine sV (.pointer (some ⟨X, 99, none⟩)) (x3) (by kernel_rfl) (by kernel_rfl) ?_
  simp only [Act.put, List.setIfInBounds_toArray, List.set_cons_succ, List.set_cons_zero]
  go_upto_region 13 with fail
  have HT := WirS.hide (w_hash (t.part 3) (t.part_len 3 (by decide)) H3.out (by have h1 := HP.out; have h2 := t.part_len 3 (by decide); have h3 := t.lh; rw [List.length_append, List.length_take, h2]; omega))
  rw [List.append_assoc, take_part] at HT
  refine wp_region_lit ?_
  refine sV (.pointer (some ⟨W, 0, none⟩)) (x3) (by kernel_rfl) (by kernel_rfl) ?_
  simp only [Act.put, List.setIfInBounds_toArray, List.set_cons_succ, List.set_cons_zero]
  refine sV (.pointer (some ⟨X, 99, none⟩)) (x3) (by kernel_rfl) (by kernel_rfl) ?_
  simp only [Act.put, List.setIfInBounds_toArray, List.set_cons_succ, List.set_cons_zero]
  refine sV (.pointer (some ⟨X, 99, none⟩)) (x3) (by kernel_rfl) (by kernel_rfl) ?_
  simp only [Act.put, List.setIfInBounds_toArray, List.set_cons_succ, List.set_cons_zero]
  refine wpList_load_mid (by rfl) _ _ (by rfl) X 99 (by kernel_rfl) (b8 (t.part 3)) _ (t.range H3.out.swap.head 3 (by decide)) Tryd.underlying26 (by rfl) (by rw [b8_len, t.part_len 3 (by decide)]; kernel_rfl) ?_
  simp only [Act.put, List.setIfInBounds_toArray, List.set_cons_succ, List.set_cons_zero]
  refine sC (R := fun w' => ∃ v', Bag w w' [wtr W 1048576 v' (hpre t ++ t.hs.take (32 * (3 + 1))) 0, box 58 X t.cells]) (by kernel_rfl) (by kernel_rfl) HT.out ?_
  rintro x4 ⟨y4, hb⟩
  simp only [Act.put, List.setIfInBounds_toArray, List.set_cons_succ, List.set_cons_zero]
  have H4 := WirS.hide hb
  clear hb HT
  go_wp2_with fail
  rw [rounds_succ]
  have HD := WirS.hide (WirF.done_ok x4 W 1048576 y4 _ H4.out.head)
  rw [show t.hs.take (32 * (3 + 1)) = t.hs from List.take_of_length_le (by rw [t.lh]; decide)] at HD
  go_wp2_with ((go_at_call 57; refine (HD.out).mono ?_; rintro e z1 ⟨da, dn, dc, rfl, ho, hnw, hb⟩; have HO := WirS.hide ho; have HNW := WirS.hide hnw; have HBB := WirS.hide hb; clear ho hnw hb))
  go_ret2
  exact ⟨_, _, _, rfl, HO.out, fun q hq => Nat.le_trans H4.out.low.size (HNW.out q hq), HXE.out ▸ H4.out.low.trans (HBB.out.mono H4.out.low.size)⟩
end HdE
end Go.Proofs.YtfmegeibnjmfpaaDoor

