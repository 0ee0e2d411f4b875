/-
  WrtA, in one text.
-/
import Derived.Test.YthcemghamdmjmaaPkG
namespace Go.Proofs.Ythcemghamdmjmaa
namespace ValJ
open Go.RowKit
open BlkM WirM WirS
open WirA (WSt Wrote putZ putE)
open WirD (numB numB_len nb_le nb)
open WirE (newB_nil NewB)
open WirX (Thg Bag BW bw_of wtr bag_wtr own bag_own)
open WirAA (box bag_box)

theorem numB_le (n : Int) (h : n < 18446744073709551616) : (numB n).length ≤ 9 := by
  rw [numB_len n h]
  have := nb_le n h
  omega
theorem w_ok {lim : Int} {ys news : List Int} (hl : ((ys.length + news.length : Nat) : Int) ≤ lim) : putE lim 0 ys news.length = 0 ∧ putZ lim 0 ys news = ys ++ news := by
  have h : putE lim 0 ys news.length = 0 := by
    unfold putE
    rw [if_neg (by simp), if_neg (by omega)]
  exact ⟨h, by unfold putZ; rw [if_pos h]⟩
/-- A writing call on the first writer, which has room. -/
def Wr (w0 : World) (l : List Thg) (W : Nat) (lim : Int) (ys : List Int) (e : Ending) (w' : World) : Prop := e = .returned (.int .i64 0) ∧ ∃ v', Bag w0 w' (wtr W lim v' ys 0 :: l)
theorem w_num {w0 w : World} {l : List Thg} {W : Nat} {lim : Int} {v : Value} {ys : List Int} (n : Int) (h : Bag w0 w (wtr W lim v ys 0 :: l)) (h0 : 0 ≤ n) (h1 : n < 9223372036854775808) (hl : ((ys.length + (numB n).length : Nat) : Int) ≤ lim) :
    Calls Try.prog 45 #[.pointer (some ⟨W, 0, none⟩), .int .i64 n] w (Wr w0 l W lim (ys ++ numB n)) := by
  obtain ⟨e1, e2⟩ := w_ok hl
  have C := bw_of h (WirE.num_any w W lim v ys 0 n h0 h1 h.head)
  rw [e1, e2] at C
  exact C
theorem w_text {w0 w : World} {l : List Thg} {W : Nat} {lim : Int} {v : Value} {ys : List Int} (s : ByteArray) (h : Bag w0 w (wtr W lim v ys 0 :: l)) (hm : s.size ≤ 1099511627776) (hl : ((ys.length + (numB s.size ++ WirE.tb s).length : Nat) : Int) ≤ lim) :
    Calls Try.prog 95 #[.pointer (some ⟨W, 0, none⟩), .string s] w (Wr w0 l W lim (ys ++ (numB s.size ++ WirE.tb s))) := by
  obtain ⟨e1, e2⟩ := w_ok hl
  have C := bw_of h (WirE.text_any w W lim v ys 0 s hm h.head)
  rw [e1, e2] at C
  exact C
theorem w_hash {w0 w : World} {l : List Thg} {W : Nat} {lim : Int} {v : Value} {ys : List Int} (hs : List Int) (hh : hs.length = 32) (h : Bag w0 w (wtr W lim v ys 0 :: l)) (hl : ((ys.length + hs.length : Nat) : Int) ≤ lim) :
    Calls Try.prog 100 #[.pointer (some ⟨W, 0, none⟩), .agg (b8 hs).toArray] w (Wr w0 l W lim (ys ++ hs)) := by
  obtain ⟨e1, e2⟩ := w_ok hl
  have C := bw_of h (WirF.hash_any w W lim v ys 0 hs hh h.head)
  rw [e1, e2] at C
  exact C
end ValJ
end Go.Proofs.Ythcemghamdmjmaa

