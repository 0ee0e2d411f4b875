/-
  The document's Text and Read of a hash.
-/
import Derived.Test.YtmdikdcbphogcaaDoorBlkZ
namespace Go.Proofs.YtmdikdcbphogcaaDoor
namespace BlkV
open Go.RowKit Go.Lib
open BlkM BlkA BlkF BlkG BlkI BlkJ BlkK BlkL BlkO BlkP BlkX BlkZ HexM
theorem str_append (l m : List Int) : strOfNums l ++ strOfNums m = strOfNums (l ++ m) := by
  unfold strOfNums
  apply ByteArray.ext
  simp
def MidU (w : World) (a : List Int) (o i : Value) (U : World) : Prop :=
  ∃ k : Nat, k ≤ 32 ∧ i = .int .i64 (k : Int) ∧ o = .string (strOfNums (tx (a.take k))) ∧ At U w.heap.size 26 (b8 a) ∧ Below w.heap.size w U
set_option maxRecDepth 10000 in
set_option maxHeartbeats 2000000 in
theorem rtext_any (w : World) (a : List Int) (la : a.length = 32) (ra : rng a) : Calls Tryd.prog 19 #[.agg (b8 a).toArray] w fun e w' => e = .returned (.string (hashText a)) ∧ Below w.heap.size w w' := by
  have hA := At.new w 26 (b8 a)
  have hB : Below w.heap.size w (w.alloc (.cells (b8 a).toArray 26)) := (by repeat (first | assumption | exact Below.refl _ _ | refine Below.setCell ?_ (by first | omega | (simp; done) | (simp; omega)) _ | refine below_drewN ?_ _ | refine Below.drew ?_ | refine Below.alloc ?_ (by first | omega | (simp; done) | (simp; omega)) _ | refine Below.trans ?_ (Below.mono (by assumption) (by first | omega | (simp; done) | (simp; omega)))))
  have HST := hide (show MidU w a (.string ⟨#[]⟩) (.int .i64 0) (w.alloc (.cells (b8 a).toArray 26)) from ⟨0, by omega, rfl, rfl, hA, hB⟩)
  have LA := hide la
  have RA := hide ra
  clear hA hB la ra
  go_enter Tryd.func19, Tryd.ntmps19
  go_wp2_with fail
  go_loopw [3, 4] (fun o i wr => MidU w a o i wr) (fun _ i _ => 32 - (intOf i).toNat)
  case atStart => exact HST.out
  case round =>
    obtain ⟨k, hk, rfl, rfl, hA, hB⟩ := hrel
    by_cases hlt : k < 32
    · obtain ⟨n, hn, hx⟩ : ∃ n : Nat, n < 256 ∧ a.getD k 0 = (n : Int) := by
        have := rng_get RA.out k
        exact ⟨(a.getD k 0).toNat, by omega, by omega⟩
      obtain ⟨d1, hd1⟩ : ∃ d1, n / 16 = d1 := ⟨_, rfl⟩
      obtain ⟨d2, hd2⟩ : ∃ d2, n % 16 = d2 := ⟨_, rfl⟩
      have e1 : (n : Int) / 16 = (d1 : Int) := by omega
      have e2 : (n : Int) % 16 = (d2 : Int) := by omega
      have e3 : (n : Int).tdiv 16 = (d1 : Int) := by rw [Int.tdiv_eq_ediv_of_nonneg (by omega)]; exact e1
      have e4 : (n : Int).tmod 16 = (d2 : Int) := by rw [Int.tmod_eq_emod_of_nonneg (by omega)]; exact e2
      have i1 := fun W => idx8 W d1 (by omega)
      have g1 : IntKind.u8.wrap (d1 : Int) = (d1 : Int) := by rw [wrap8]; omega
      have i2 := fun W => idx8 W d2 (by omega)
      have ck := hA.cell k
      rw [b8_get a k (by rw [LA.out]; exact hlt), hx] at ck
      have hk2 : (k : Int) < 32 := by omega
      obtain ⟨o, ho⟩ : ∃ o, o = strOfNums (tx (a.take k)) := ⟨_, rfl⟩
      have hos : o.size ≤ 64 := by rw [ho, strOfNums_size, tx_len, List.length_take]; omega
      have hnx : o ++ strOfNums [hexd d1, hexd d2] = strOfNums (tx (a.take (k + 1))) := by
        have hkl : k < a.length := by rw [LA.out]; exact hlt
        have e5 : a[k] = (n : Int) := by
          rw [List.getD_eq_getElem?_getD, List.getElem?_eq_getElem hkl] at hx
          exact hx
        rw [ho, str_append, List.take_succ_eq_append_getElem hkl, tx_append, e5]
        show _ = strOfNums (tx (a.take k) ++ [hexd ((n : Int).toNat / 16), hexd ((n : Int).toNat % 16)])
        rw [Int.toNat_natCast, hd1, hd2]
      have hcv : ∀ Y : World, (convert 22 9 (.slice (some ⟨Y.heap.size, 0, none⟩) 2 2)).run Tryd.prog ((Y.alloc (.cells #[.int .u8 (hexd d1), .int .u8 (hexd d2)] 5)).drew) = .ok (.string (strOfNums [hexd d1, hexd d2])) ((Y.alloc (.cells #[.int .u8 (hexd d1), .int .u8 (hexd d2)] 5)).drew) := fun Y => by
        refine run_convert_bytes_arg _ 22 5 Tryd.underlying22 Tryd.underlying5 Y.heap.size 0 2 2 [hexd d1, hexd d2] rfl ?_ 9 Tryd.underlying9
        intro i hi
        have hA := At.new Y 5 (b8 [hexd d1, hexd d2])
        rw [Nat.zero_add]
        exact (hA.cell i).trans (b8_get _ i hi)
      have hsz : (strOfNums [hexd d1, hexd d2]).size = 2 := by rw [strOfNums_size]; rfl
      rw [← ho]
      obtain ⟨q, hq⟩ : ∃ q, q = strOfNums [hexd d1, hexd d2] := ⟨_, rfl⟩
      rw [← hq] at hsz hnx
      simp only [← hq] at hcv
      have HN := hide hnx
      have HA := hide hA
      have HB := hide hB
      have hsz2 : q.size ≤ 2 := by omega
      clear hA hB hnx ho hx hd1 hd2 hq hsz
      go_wp2_with fail
      go_region
      all_goals (go_wp2_with fail; go_roundw)
      all_goals first
        | (refine ⟨k + 1, by omega, by go_num, by rw [HN.out], At.alloc HA.out _, Below.drew (Below.alloc HB.out (Below.size HB.out) _)⟩; done)
        | (simp [intOf]; omega)
    · obtain rfl : k = 32 := by omega
      have HB := hide hB
      have hv : strOfNums (tx (a.take 32)) = hashText a := by rw [List.take_of_length_le (by rw [LA.out]; omega)]; rfl
      rw [hv]
      clear hA hB hv
      go_wp2_with fail
      go_ret
      exact ⟨rfl, HB.out⟩
end BlkV
end Go.Proofs.YtmdikdcbphogcaaDoor
