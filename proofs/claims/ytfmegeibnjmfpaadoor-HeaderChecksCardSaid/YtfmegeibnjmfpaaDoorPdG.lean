/-
  WirZ, WirNA, WirO1, WirRT, WirAA, in one text.
-/
import Derived.Test.YtfmegeibnjmfpaaDoorBlkM
import Derived.Test.YtfmegeibnjmfpaaDoorWirM
import Derived.Test.YtfmegeibnjmfpaaDoorWirS
import Derived.Test.YtfmegeibnjmfpaaDoorPdB
import Derived.Test.YtfmegeibnjmfpaaDoorPdC
import Derived.Test.YtfmegeibnjmfpaaDoorPdD
import Derived.Test.YtfmegeibnjmfpaaDoorPdE
import Derived.Test.YtfmegeibnjmfpaaDoorPdF
import Derived.ProofKit
import Derived.OpenShut
import Derived.ShutString
import Derived.ChangeOld
import Derived.Lib.SmallJoins
namespace Go.Proofs.YtfmegeibnjmfpaaDoor
namespace WirZ
open Go.RowKit PaceA
open BlkM WirM WirS WirA WirB WirC WirD WirE WirF WirG WirH WirI WirJ WirK WirL WirN WirO WirP WirQ WirR WirT WirU WirX

/-- A thing. -/
structure Td where
  kd : Int
  n : Int
  v : Value
  h : List Int
  k : List Int
  u : Int
  is : Bool
  lh : h.length = 32
  lk : k.length = 4
def Td.cells (t : Td) : List Value := .int .i64 t.kd :: .int .i64 t.n :: t.v :: (b8 t.h ++ (b8 t.k ++ [.int .u64 t.u, .bool t.is]))
theorem Td.len (t : Td) : t.cells.length = 41 := by simp [Td.cells, b8_len, t.lh, t.lk]
end WirZ
end Go.Proofs.YtfmegeibnjmfpaaDoor

namespace Go.Proofs.YtfmegeibnjmfpaaDoor
namespace WirNA
open Go.RowKit PaceA
open BlkM WirM WirS WirA WirB WirC WirD WirE WirF WirG WirH WirI WirJ WirK WirL WirN WirO WirP WirQ WirR WirT WirU WirX WirZ

/-- A thing, as it comes in. -/
structure Wf (w : World) (t : Td) (va : Option Addr) (vn vc : Nat) (zs : List Int) : Prop where
  hv : t.v = .slice va vn vc
  bin : BIn w (.slice va vn vc) zs
  rz : ∀ x ∈ zs, 0 ≤ x ∧ x < 256
  n0 : -9223372036854775808 ≤ t.n
  n1 : t.n ≤ 9223372036854775807
  u0 : 0 ≤ t.u
  u1 : t.u < 18446744073709551616
theorem Wf.len {w : World} {t : Td} {va : Option Addr} {vn vc : Nat} {zs : List Int} (h : Wf w t va vn vc zs) : vn = zs.length := by
  obtain ⟨_, _, e, _⟩ := h.bin
  cases e
  rfl
theorem Wf.more {w W U : World} {t : Td} {va : Option Addr} {vn vc : Nat} {zs : List Int} (h : Wf w t va vn vc zs) (hU : Below W.heap.size W U) (hW : Below w.heap.size w W) : Wf U t va vn vc zs :=
  ⟨h.hv, h.bin.below (hW.trans (hU.mono hW.size)), h.rz, h.n0, h.n1, h.u0, h.u1⟩
theorem st_size (zs : List Int) : (st zs).size = zs.length := by
  show (strOfNums zs).data.size = _
  simp [strOfNums]
end WirNA
end Go.Proofs.YtfmegeibnjmfpaaDoor

namespace Go.Proofs.YtfmegeibnjmfpaaDoor
namespace WirO1
open Go.RowKit PaceA Go.WideShapes Go.ChangeShapes Go.ChangeAt
open BlkM WirM WirS WirA WirB WirC WirD WirE WirF WirG WirH WirI WirJ WirK WirL WirN WirO WirP WirQ WirR WirT WirU WirX WirZ WirNA

section
variable {H : Type} {enc : TypeId × Value → H} {W : World}

theorem row8 {T : TypeId} {k : Nat} (hT : Tryd.prog.underlying T = some (.array k 5)) (hc : Tryd.prog.cellsOf T = k) {fuel : Nat} {cs : List Value} {x : DataW H × List MemPlace} (h : DataW.trod enc Tryd.prog W 0 (fun _ => true) true fuel T cs = some x) :
    ∃ l : List Int, cs = b8 l ∧ l.length = k ∧ ∀ x ∈ l, 0 ≤ x ∧ x < 256 := by
  have c1 : Tryd.prog.cellsOf 5 = 1 := by kernel_rfl
  obtain ⟨xs, m1, rfl, _, hlen, hn, hel⟩ := DataW.trod_array hT h
  simp only [c1, Nat.mul_one] at hel
  rw [hc] at hlen
  have key : ∀ i (hi : i < cs.length), ∃ z : Int, cs[i] = .int .u8 z ∧ 0 ≤ z ∧ z < 256 := by
    intro i hi
    have h1 := hel i (by omega)
    rw [List.getElem?_eq_getElem (show i < xs.length by omega)] at h1
    obtain ⟨z, e1, _, hw⟩ := DataW.trod_int Tryd.underlying5 h1
    have e : (cs.drop i).take 1 = [cs[i]] := by
      rw [List.drop_eq_getElem_cons hi]
      rfl
    rw [e] at e1
    refine ⟨z, by simpa using e1, ?_⟩
    simp [Lit.wf, IntKind.min, IntKind.max, IntKind.signed, IntKind.bits] at hw
    omega
  refine ⟨cs.map fun | .int _ z => z | _ => 0, ?_, by rw [List.length_map]; exact hlen, ?_⟩
  · apply List.ext_getElem
    · simp [b8]
    · intro i h1 h2
      obtain ⟨z, e, _⟩ := key i h1
      simp only [b8, List.getElem_map]
      rw [e]
  · intro x hx
    obtain ⟨c, hc, rfl⟩ := List.mem_map.1 hx
    obtain ⟨i, hi, rfl⟩ := List.getElem_of_mem hc
    obtain ⟨z, e, h0, h1⟩ := key i hi
    rw [e]
    exact ⟨h0, h1⟩

theorem b_some (W : World) (x : Addr) (l c : Nat) (zs : List Int) (hl : l ≤ c) (hz : zs.length = c) (hcell : ∀ i, i < zs.length → W.cell? (x.add i) = some (.int .u8 (zs.getD i 0))) (hwz : ∀ n ∈ zs, (Lit.int .u8 n).wf = true) :
    BIn W (.slice (some x) l c) (zs.take l) ∧ ∀ z ∈ zs.take l, 0 ≤ z ∧ z < 256 := by
  have hr : ∀ z ∈ zs, 0 ≤ z ∧ z < 256 := fun n hn => by
    have := hwz n hn
    simp [Lit.wf, IntKind.min, IntKind.max, IntKind.signed, IntKind.bits] at this
    omega
  have hlen : (zs.take l).length = l := by rw [List.length_take]; omega
  refine ⟨⟨some x, c, by rw [hlen], by omega, fun hne => ?_⟩, fun z h => hr z (List.mem_of_mem_take h)⟩
  have hpos : 0 < l := by
    rcases Nat.eq_zero_or_pos l with h | h
    · subst h; exact absurd (List.take_zero) hne
    · exact h
  obtain ⟨b, off, rfl, hc⟩ := Go.ints_at hcell (by omega)
  refine ⟨b, off, rfl, ?_, fun i hi => ?_⟩
  · have h0 := hc 0 (by omega)
    unfold World.cell? at h0
    rcases Nat.lt_or_ge b W.heap.size with h | h
    · exact h
    · have : W.heap[b]? = none := by simp [h]
      simp [this] at h0
  · rw [hlen] at hi
    rw [hc i (by omega)]
    simp [List.getD, hi]

theorem bytes_open {fuel : Nat} {cs : List Value} {x : DataW H × List MemPlace} (h : DataW.trod enc Tryd.prog W 0 (fun _ => true) true fuel 22 cs = some x) :
    ∃ va vn vc zs, cs = [.slice va vn vc] ∧ BIn W (.slice va vn vc) zs ∧ ∀ z ∈ zs, 0 ≤ z ∧ z < 256 := by
  rcases open_ints Tryd.underlying22 Tryd.underlying5 (by kernel_rfl) h with ⟨hcs, _⟩ | ⟨a, l, c, zs, hcs, _, hl, hm, hz, _, hcell, hwz⟩
  · exact ⟨none, 0, 0, [], hcs, BIn.nil W, fun x hx => absurd hx (by simp)⟩
  · obtain ⟨h1, h2⟩ := b_some W a l c zs hl (by simpa using hz) hcell hwz
    exact ⟨some a, l, c, zs.take l, hcs, h1, h2⟩
theorem part {cs : List Value} (n : Nat) {p : List Value} (k m : Nat) (h : (cs.drop n).take k = p) (e : n + k = m) : cs.drop n = p ++ cs.drop m := by
  subst h e
  rw [← List.drop_drop, List.take_append_drop]
end
end WirO1
end Go.Proofs.YtfmegeibnjmfpaaDoor

namespace Go.Proofs.YtfmegeibnjmfpaaDoor
namespace WirRT
open Go.RowKit PaceA
open BlkM WirM WirS WirA WirB WirC WirD WirE WirF WirG WirH WirI WirJ WirK WirL WirN WirO WirP WirQ WirR WirT WirU WirX WirZ WirNA

abbrev rng (zs : List Int) : Prop := ∀ x ∈ zs, 0 ≤ x ∧ x < 256
/-- The k last digits. -/
def dg (n : Int) : Nat → List Int
  | 0 => []
  | k + 1 => (n / 2 ^ (8 * k) % 256) :: dg n k
theorem dg_len (n : Int) : ∀ k, (dg n k).length = k
  | 0 => rfl
  | k + 1 => by rw [dg, List.length_cons, dg_len n k]
theorem dg_snoc (n : Int) : ∀ k, dg n (k + 1) = dg (n / 256) k ++ [n % 256]
  | 0 => by simp [dg]
  | k + 1 => by
    rw [dg, dg_snoc n k, dg, List.cons_append]
    congr 2
    rw [show (2 : Int) ^ (8 * (k + 1)) = 256 * 2 ^ (8 * k) by rw [show 8 * (k + 1) = 8 + 8 * k by omega, Int.pow_add]; rfl, Int.ediv_ediv_of_nonneg (by decide)]
theorem dg_vL (zs : List Int) (h : rng zs) : dg (vL zs) zs.length = zs := by
  obtain ⟨k, hk⟩ : ∃ k, k = zs.length := ⟨_, rfl⟩
  induction k generalizing zs with
  | zero => rw [← hk]; exact (List.length_eq_zero_iff.1 hk.symm).symm
  | succ k ih =>
    obtain ⟨ys, x, rfl⟩ : ∃ ys x, zs = ys ++ [x] := ⟨zs.dropLast, zs.getLast (by intro e; subst e; simp at hk), (List.dropLast_concat_getLast _).symm⟩
    have hy : k = ys.length := by simp at hk; omega
    have hx := h x (by simp)
    rw [← hk, dg_snoc, vL_snoc, show (vL ys * 256 + x) / 256 = vL ys by omega, show (vL ys * 256 + x) % 256 = x by omega, hy, ih ys (fun z hz => h z (by simp [hz])) hy]
theorem cp_dg (n : Int) (k : Nat) (hk : k ≤ 8) : ∀ i, i ≤ k → cp n k i = (k : Int) :: (List.replicate (k - i) 0 ++ (dg n i ++ List.replicate (8 - k) 0))
  | 0, _ => by rw [cp, dg, List.nil_append, Nat.sub_zero, List.replicate_append_replicate, show k + (8 - k) = 8 by omega]
  | i + 1, h => by
    obtain ⟨m, hm⟩ : ∃ m, k - i = m + 1 := ⟨k - i - 1, by omega⟩
    rw [cp, cp_dg n k hk i (by omega), hm, show k - (i + 1) = m by omega, List.set_cons_succ, List.replicate_succ', List.append_assoc, List.set_append, if_neg (by simp), List.length_replicate, Nat.sub_self, List.singleton_append, List.set_cons_zero, dg, List.cons_append]
theorem cp_full (n : Int) (k : Nat) (hk : k ≤ 8) : (cp n k k).take (k + 1) = (k : Int) :: dg n k := by
  rw [cp_dg n k hk k (Nat.le_refl _), Nat.sub_self, List.replicate_zero, List.nil_append, List.take_succ_cons, List.take_append_of_le_length (by rw [dg_len]; exact Nat.le_refl _), List.take_of_length_le (by rw [dg_len]; exact Nat.le_refl _)]
theorem vL_ge : ∀ (zs : List Int) (a : Int), 0 ≤ a → rng zs → a * 256 ^ zs.length ≤ zs.foldl (fun n x => n * 256 + x) a
  | [], a, _, _ => by simp
  | x :: l, a, h0, h => by
    have hx := h x (by simp)
    have ih := vL_ge l (a * 256 + x) (by omega) (fun z hz => h z (by simp [hz]))
    rw [List.foldl_cons, List.length_cons, Int.pow_succ]
    refine Int.le_trans ?_ ih
    rw [show a * (256 ^ l.length * 256) = (a * 256) * 256 ^ l.length by rw [Int.mul_comm (256 ^ l.length), ← Int.mul_assoc]]
    exact Int.mul_le_mul_of_nonneg_right (by omega) (Int.pow_nonneg (by decide))
theorem bl_pos (x : Nat) (h0 : x ≠ 0) (h : x < 2 ^ 64) : 1 ≤ Lib.bitLen x := by rw [Lib.bitLen_half x h0 h]; omega
theorem nb_vL (zs : List Int) (h : rng zs) (h8 : zs.length ≤ 8) (hd : zs ≠ [] → zs.getD 0 0 ≠ 0) : nb (vL zs) = zs.length := by
  match zs, hd with
  | [], _ => decide
  | d :: r, hd =>
    have hd1 : d ≠ 0 := hd (by simp)
    have hd0 := (h d (by simp)).1
    have hge := vL_ge r d hd0 (fun z hz => h z (by simp [hz]))
    have hlt := (vL_lt (d :: r) h).2
    have hnn := (vL_lt (d :: r) h).1
    rw [show vL (d :: r) = r.foldl (fun n x => n * 256 + x) d by simp [vL]] at hlt hnn ⊢
    generalize r.foldl (fun n x => n * 256 + x) d = N at hge hlt hnn ⊢
    obtain ⟨x, rfl⟩ := Int.eq_ofNat_of_zero_le hnn
    have hj : r.length + 1 ≤ 8 := h8
    have h1 : (256 : Int) ^ r.length ≤ (x : Int) := by
      refine Int.le_trans ?_ hge
      have := Int.mul_le_mul_of_nonneg_right (show 1 ≤ d by omega) (show (0 : Int) ≤ 256 ^ r.length from Int.pow_nonneg (by decide))
      rwa [Int.one_mul] at this
    rw [List.length_cons] at hlt ⊢
    generalize r.length = j at h1 hlt hj ⊢
    have h1' : 2 ^ (8 * j) ≤ x := by
      rw [Nat.pow_mul]
      exact Int.ofNat_le.1 (by rw [Int.natCast_pow]; exact h1)
    have hlt' : x < 2 ^ (8 * j) * 256 := by
      rw [Nat.pow_mul]
      have : x < 256 ^ (j + 1) := Int.ofNat_lt.1 (by rw [Int.natCast_pow]; exact hlt)
      rwa [Nat.pow_succ] at this
    have h64 : x < 2 ^ 64 := Nat.lt_of_lt_of_le hlt' (by rw [show 256 = 2 ^ 8 from rfl, ← Nat.pow_add]; exact Nat.pow_le_pow_right (by decide) (by omega))
    have hs := Lib.bitLen_shift (8 * j) x h1' h64
    have hq : x / 2 ^ (8 * j) < 256 := Nat.div_lt_of_lt_mul hlt'
    have hq0 : x / 2 ^ (8 * j) ≠ 0 := by
      have := (Nat.le_div_iff_mul_le (Nat.pow_pos (n := 8 * j) (show 0 < 2 by decide)) (x := 1) (y := x)).2 (by omega)
      omega
    have ha := bl_pos _ hq0 (by omega)
    have hb := Lib.bitLen_le (x / 2 ^ (8 * j)) 8 (by decide) hq
    unfold nb
    rw [Int.toNat_natCast, hs]
    omega
theorem numB_vL (zs : List Int) (h : rng zs) (h8 : zs.length ≤ 8) (hd : zs ≠ [] → zs.getD 0 0 ≠ 0) : numB (vL zs) = (zs.length : Int) :: zs := by
  unfold numB
  rw [nb_vL zs h h8 hd, cp_full _ _ h8, dg_vL zs h]
theorem rng_part {bs : List Int} (h : rng bs) (i k : Nat) : rng ((bs.drop i).take k) := fun x hx => h x (List.mem_of_mem_drop (List.mem_of_mem_take hx))
/-- What is read between two places is written so. -/
def Fits (bs : List Int) (at' p : Nat) (news : List Int) : Prop := at' ≤ p ∧ p ≤ bs.length ∧ bs.take at' ++ news = bs.take p
theorem fits_of {bs : List Int} {at' p : Nat} {news : List Int} (k : Nat) (hp : p = at' + k) (hl : p ≤ bs.length) (hn : news = (bs.drop at').take k) : Fits bs at' p news := by
  subst hp hn
  exact ⟨by omega, hl, by rw [← List.take_add]⟩
theorem fits_trans {bs : List Int} {a b c : Nat} {x y : List Int} (h : Fits bs a b x) (h2 : Fits bs b c y) : Fits bs a c (x ++ y) := ⟨Nat.le_trans h.1 h2.1, h2.2.1, by rw [← List.append_assoc, h.2.2, h2.2.2]⟩
theorem num_fits {bs : List Int} {at' p : Nat} {n : Int} (hr : rng bs) (h : numO bs at' = .inr (n, p)) : 0 ≤ n ∧ n < 9223372036854775808 ∧ Fits bs at' p (numB n) := by
  unfold numO at h
  split at h
  · cases h
  split at h
  · cases h
  split at h
  · cases h
  split at h
  · cases h
  rename_i h1 h2 h3 h4
  simp only [Sum.inr.injEq, Prod.mk.injEq] at h
  obtain ⟨rfl, rfl⟩ := h
  have hd : rng [bs.getD at' 0] := by
    rw [← one_at bs at' (by omega)]
    exact rng_part hr at' 1
  have hd0 := hd (bs.getD at' 0) (List.mem_singleton.2 rfl)
  obtain ⟨k, hk⟩ := Int.eq_ofNat_of_zero_le hd0.1
  rw [hk, Int.toNat_natCast] at h3 h4 ⊢
  rw [hk] at h2
  have hz := rng_part hr (at' + 1) k
  have hl : ((bs.drop (at' + 1)).take k).length = k := by rw [List.length_take, List.length_drop]; omega
  have hnb : ¬ badN ((bs.drop (at' + 1)).take k) := h4
  have h5 : ((bs.drop (at' + 1)).take k) ≠ [] → ((bs.drop (at' + 1)).take k).getD 0 0 ≠ 0 := fun a b => hnb (.inl ⟨a, b⟩)
  have h6 : vL ((bs.drop (at' + 1)).take k) ≤ 9223372036854775807 := Int.not_lt.1 fun h => hnb (.inr h)
  have h7 := (vL_lt _ hz).1
  refine ⟨h7, by omega, fits_of (k + 1) (by omega) (by omega) ?_⟩
  rw [numB_vL _ hz (by rw [hl]; omega) h5, hl, show k + 1 = 1 + k by omega, List.take_add, one_at bs at' (by omega), hk, List.drop_drop]
  rfl
theorem row_fits {n : Nat} {bs : List Int} {at' p : Nat} {l : List Int} (h : rowO n bs at' = .inr (l, p)) : l.length = n ∧ Fits bs at' p l := by
  unfold rowO at h
  split at h
  · cases h
  simp only [Sum.inr.injEq, Prod.mk.injEq] at h
  obtain ⟨rfl, rfl⟩ := h
  exact ⟨by rw [List.length_take, List.length_drop]; omega, fits_of n rfl (by omega) rfl⟩
theorem sized_fits {bs : List Int} {at' p : Nat} {most : Int} {l : List Int} (hr : rng bs) (h : sizedO bs at' most = .inr (l, p)) : rng l ∧ l.length ≤ bs.length ∧ Fits bs at' p (numB (l.length : Int) ++ l) := by
  unfold sizedO at h
  split at h
  · cases h
  rename_i x hx
  obtain ⟨n, q⟩ := x
  split at h
  · cases h
  split at h
  · cases h
  rename_i h1 h2
  simp only [Sum.inr.injEq, Prod.mk.injEq] at h h1 h2
  obtain ⟨rfl, rfl⟩ := h
  obtain ⟨h0, h3, h4⟩ := num_fits hr hx
  have hl : ((bs.drop q).take n.toNat).length = n.toNat := by rw [List.length_take, List.length_drop]; omega
  refine ⟨rng_part hr q _, by rw [hl]; omega, fits_trans (b := q) ?_ (fits_of n.toNat rfl (by omega) rfl)⟩
  rw [hl, Int.toNat_of_nonneg h0]
  exact h4
theorem tb_st (zs : List Int) (h : rng zs) : tb (st zs) = zs := by
  unfold tb st strOfNums
  apply List.ext_getElem
  · simp
  · intro i h1 h2
    have := h zs[i] (List.getElem_mem h2)
    simp
    omega
end WirRT
end Go.Proofs.YtfmegeibnjmfpaaDoor

namespace Go.Proofs.YtfmegeibnjmfpaaDoor
namespace WirAA
open Go.RowKit PaceA
open BlkM WirM WirS WirA WirB WirC WirD WirE WirF WirG WirH WirI WirJ WirK WirL WirN WirO WirP WirQ WirR WirT WirU WirX WirZ WirNA WirRT

/-- A box. -/
def box (T : TypeId) (X : Nat) (cs : List Value) : Thg where
  ok w := At w X T cs
  foot k := k = X
  stable h hf hX := At.fr h hf (hX X rfl)
  inside h k hk := by subst hk; exact h.lt
theorem bag_box {w0 w w' : World} {l : List Thg} {T : TypeId} {X : Nat} {cs : List Value} (h : Bag w0 w l) (hX : X = w.heap.size) (hA : At w' X T cs) (hb : Below w.heap.size w w') : Bag w0 w' (box T X cs :: l) :=
  h.new hb hA (fun k hk => by rw [show k = X from hk, hX]; exact Nat.le_refl _)
theorem bag_set {w0 w : World} {l : List Thg} {T : TypeId} {X : Nat} {cs : List Value} (h : Bag w0 w (box T X cs :: l)) (i : Nat) (v : Value) : Bag w0 (w.setCell ⟨X, i, none⟩ v) (box T X (cs.set i v) :: l) :=
  h.act ((Fr.refl _ w).setCell X i v (fun _ => rfl)) (At.setCell h.head i v) (fun _ hk => .inl hk)
theorem bag_sets {w0 w : World} {l : List Thg} {T : TypeId} {X : Nat} {cs : List Value} (h : Bag w0 w (box T X cs :: l)) (o : Nat) (vs : List Value) (hl : o + vs.length ≤ cs.length) : Bag w0 (w.setCells X o vs) (box T X (cs.take o ++ (vs ++ cs.drop (o + vs.length))) :: l) :=
  h.act (fr_setCells X vs o w w (Fr.refl _ w)) (heap_setCells_one X T vs o cs w h.head hl) (fun _ hk => .inl hk)
theorem num_code {bs : List Int} {at' : Nat} {c : Int} (h : numO bs at' = .inl c) : c ≠ 0 := by
  unfold numO at h
  split at h
  · cases h; decide
  split at h
  · cases h; decide
  split at h
  · cases h; decide
  split at h
  · cases h; decide
  · cases h
theorem row_code {n : Nat} {bs : List Int} {at' : Nat} {c : Int} (h : rowO n bs at' = .inl c) : c ≠ 0 := by
  unfold rowO at h
  split at h
  · cases h; decide
  · cases h
theorem sized_code {bs : List Int} {at' : Nat} {most : Int} {c : Int} (h : sizedO bs at' most = .inl c) : c ≠ 0 := by
  unfold sizedO at h
  split at h
  · rename_i x hx
    cases h
    exact num_code hx
  split at h
  · cases h; decide
  split at h
  · cases h; decide
  · cases h
/-! ### Written -/
end WirAA
end Go.Proofs.YtfmegeibnjmfpaaDoor

