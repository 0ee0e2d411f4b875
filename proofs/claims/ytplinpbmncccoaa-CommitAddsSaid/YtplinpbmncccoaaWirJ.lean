/-
  The program's reader: numbers, words, bools, texts, bytes taken; the calls Num, Word, Bool, Text, Bytes, Rest, End, NewReader.
-/
import Derived.Test.YtplinpbmncccoaaWirI
namespace Go.Proofs.Ytplinpbmncccoaa
namespace WirJ
open Go.RowKit
open BlkM WirM WirS WirA WirB WirE WirF WirG WirH WirI

def outOf {α : Type} (f : α → Value) : Sum Int (α × Nat) → Out
  | .inl c => .inl c
  | .inr x => .inr (fun v _ => v = f x.1, x.2)
/-- The number at a place. -/
def numO (bs : List Int) (at' : Nat) : Sum Int (Int × Nat) :=
  if bs.length < at' + 1 then .inl 6 else
  if 8 < bs.getD at' 0 then .inl 5 else
  if bs.length < at' + 1 + (bs.getD at' 0).toNat then .inl 6 else
  if badN ((bs.drop (at' + 1)).take (bs.getD at' 0).toNat) then .inl 5 else
  .inr (vL ((bs.drop (at' + 1)).take (bs.getD at' 0).toNat), at' + 1 + (bs.getD at' 0).toNat)
def wordO (bs : List Int) (at' : Nat) : Sum Int (Int × Nat) :=
  if bs.length < at' + 8 then .inl 6 else .inr (vL ((bs.drop at').take 8), at' + 8)
def boolO (bs : List Int) (at' : Nat) : Sum Int (Bool × Nat) :=
  if bs.length < at' + 1 then .inl 6 else if 1 < bs.getD at' 0 then .inl 5 else .inr (bs.getD at' 0 == 1, at' + 1)
/-- So many bytes as their number says, at most most. -/
def sizedO (bs : List Int) (at' : Nat) (most : Int) : Sum Int (List Int × Nat) :=
  match numO bs at' with
  | .inl c => .inl c
  | .inr x => if max most 0 < x.1 then .inl 4 else if bs.length < x.2 + x.1.toNat then .inl 6 else .inr ((bs.drop x.2).take x.1.toNat, x.2 + x.1.toNat)
theorem one_at (bs : List Int) (at' : Nat) (h : at' + 1 ≤ bs.length) : (bs.drop at').take 1 = [bs.getD at' 0] := by
  have hl : at' < bs.length := by omega
  rw [List.drop_eq_getElem_cons hl, List.take_succ_cons, List.take_zero]
  simp [List.getD, hl]
theorem byte_at {bs : List Int} (h : ∀ x ∈ bs, 0 ≤ x ∧ x < 256) (at' : Nat) : 0 ≤ bs.getD at' 0 ∧ bs.getD at' 0 < 256 := by
  by_cases hl : at' < bs.length
  · have := h bs[at'] (List.getElem_mem hl)
    simpa [List.getD, hl] using this
  · simp [List.getD, Nat.le_of_not_lt hl]
theorem take_word_ok (w : World) (R : Nat) (a : Option Addr) (c : Nat) (bs : List Int) (at' n : Nat) (h : RSt w R a c bs at' 0 0) (hn : at' + n ≤ bs.length) (h8 : n ≤ 8) :
    Calls Try.prog 137 #[.pointer (some ⟨R, 0, none⟩), .int .i64 (n : Int), .func (.func 138) #[] #[]] w (Got w R a c bs (.int .u64 (vL ((bs.drop at').take n))) (at' + n)) :=
  take_word w R a c bs at' n h hn _ (fun _ h => by cases h.1) fun W hR hF =>
    (word_any W (sa a c at') n (c - at') _ (bin_sub hR.bin at' n hn) (sub_rng hR.bytes at' n) (by simp; omega)).mono fun e w' ⟨h1, h2⟩ => by subst h2; exact ⟨h1, hR, hF⟩
theorem take_nat_ok (w : World) (R : Nat) (a : Option Addr) (c : Nat) (bs : List Int) (at' n : Nat) (h : RSt w R a c bs at' 0 0) (hn : at' + n ≤ bs.length) (h8 : n ≤ 8) (hb : ¬ badN ((bs.drop at').take n)) :
    Calls Try.prog 185 #[.pointer (some ⟨R, 0, none⟩), .int .i64 (n : Int), .func (.func 186) #[] #[]] w (Got w R a c bs (.int .i64 (vL ((bs.drop at').take n))) (at' + n)) :=
  take_natural w R a c bs at' n h hn _ (fun _ h => by cases h.1) fun W hR hF =>
    (natural_ok W (sa a c at') n (c - at') _ (bin_sub hR.bin at' n hn) (sub_rng hR.bytes at' n) (by simp; omega) hb).mono fun e w' ⟨h1, h2⟩ => by subst h2; exact ⟨h1, hR, hF⟩
theorem take_nat_bad (w : World) (R : Nat) (a : Option Addr) (c : Nat) (bs : List Int) (at' n : Nat) (h : RSt w R a c bs at' 0 0) (hn : at' + n ≤ bs.length) (h8 : n ≤ 8) (hb : badN ((bs.drop at').take n)) :
    Calls Try.prog 185 #[.pointer (some ⟨R, 0, none⟩), .int .i64 (n : Int), .func (.func 186) #[] #[]] w (Bad w R a c bs 5) :=
  take_natural w R a c bs at' n h hn _ (fun _ h => by cases h.1) fun W hR hF =>
    (natural_bad W (sa a c at') n (c - at') _ (bin_sub hR.bin at' n hn) (sub_rng hR.bytes at' n) (by simp; omega) hb).mono fun e w' ⟨h1, h2⟩ => by subst h2; exact ⟨h1, ⟨_, hR⟩, hF⟩
set_option maxHeartbeats 2000000 in
theorem takeNumber_any (w : World) (R : Nat) (a : Option Addr) (c : Nat) (bs : List Int) (at' : Nat) (h : RSt w R a c bs at' 0 0) :
    Calls Try.prog 119 #[.pointer (some ⟨R, 0, none⟩)] w (ElemPost w R a c bs (outOf (Value.int .i64) (numO bs at'))) := by
  have hB := byte_at h.bytes at'
  by_cases h1 : bs.length < at' + 1
  · have H := hide (show Calls _ _ #[_, .int .i64 1, _] _ _ from take_short_word w R a c bs at' 1 (.func (.func 138) #[] #[]) h (by omega) h1)
    rw [show numO bs at' = .inl 6 by unfold numO; rw [if_pos h1]]
    clear h hB h1
    go_enter Try.func119, Try.ntmps119
    go_wp2_with ((go_at_call 137; refine (H.out).mono ?_; rintro e w1 ⟨rfl, h2⟩))
    exact ⟨rfl, rfl, h2⟩
  · have H := hide (show Calls _ _ #[_, .int .i64 1, _] _ _ from take_word_ok w R a c bs at' 1 h (by omega) (by omega))
    rw [one_at bs at' (by omega), show vL [bs.getD at' 0] = bs.getD at' 0 by simp [vL]] at H
    obtain ⟨k, hk⟩ := Int.eq_ofNat_of_zero_le hB.1
    by_cases h2 : 8 < bs.getD at' 0
    · rw [show numO bs at' = .inl 5 by unfold numO; rw [if_neg h1, if_pos h2]]
      generalize bs.getD at' 0 = x at H hB h2
      clear h hk h1
      obtain ⟨hx0, hx1⟩ := hB
      go_enter Try.func119, Try.ntmps119
      go_wp2_with ((go_at_call 137; refine (H.out).mono ?_; rintro e w1 ⟨rfl, h3, h4⟩; have HR := hide h3; clear h3))
      exact ⟨rfl, rfl, ⟨_, HR.out⟩, h4⟩
    · have hk8 : k ≤ 8 := by omega
      have hkn : (bs.getD at' 0).toNat = k := by rw [hk]; rfl
      have hnum : numO bs at' = if bs.length < at' + 1 + k then .inl 6 else if badN ((bs.drop (at' + 1)).take k) then .inl 5 else .inr (vL ((bs.drop (at' + 1)).take k), at' + 1 + k) := by
        unfold numO
        rw [if_neg h1, if_neg h2, hkn]
      rw [hnum]
      rw [hk] at H
      by_cases h3 : bs.length < at' + 1 + k
      · rw [if_pos h3]
        have H2 := hide (fun W (hR : RSt W R a c bs (at' + 1) 0 0) => take_short_natural W R a c bs (at' + 1) k (.func (.func 186) #[] #[]) hR (by omega) h3)
        clear h hB hk h1 h2 hkn hnum h3
        go_enter Try.func119, Try.ntmps119
        go_wp2_with (first | ((go_at_call 137; refine (H.out).mono ?_; rintro e w1 ⟨rfl, h3, h4⟩; have HR := hide h3; clear h3)) | ((go_at_call 185; refine (H2.out _ HR.out).mono ?_; rintro e w2 ⟨rfl, h5, h6⟩)))
        exact ⟨rfl, rfl, h5, h4.trans h6⟩
      · rw [if_neg h3]
        by_cases h4 : badN ((bs.drop (at' + 1)).take k)
        · rw [if_pos h4]
          have H2 := hide (fun W (hR : RSt W R a c bs (at' + 1) 0 0) => take_nat_bad W R a c bs (at' + 1) k hR (by omega) hk8 h4)
          clear h hB hk h1 h2 hkn hnum h3 h4
          go_enter Try.func119, Try.ntmps119
          go_wp2_with (first | ((go_at_call 137; refine (H.out).mono ?_; rintro e w1 ⟨rfl, h3, h4⟩; have HR := hide h3; clear h3)) | ((go_at_call 185; refine (H2.out _ HR.out).mono ?_; rintro e w2 ⟨rfl, h5, h6⟩)))
          exact ⟨rfl, rfl, h5, h4.trans h6⟩
        · rw [if_neg h4]
          have H2 := hide (fun W (hR : RSt W R a c bs (at' + 1) 0 0) => take_nat_ok W R a c bs (at' + 1) k hR (by omega) hk8 h4)
          clear h hB hk h1 h2 hkn hnum h3 h4
          generalize vL ((bs.drop (at' + 1)).take k) = y at H2 ⊢
          go_enter Try.func119, Try.ntmps119
          go_wp2_with (first | ((go_at_call 137; refine (H.out).mono ?_; rintro e w1 ⟨rfl, h3, h4⟩; have HR := hide h3; clear h3)) | ((go_at_call 185; refine (H2.out _ HR.out).mono ?_; rintro e w2 ⟨rfl, h5, h6⟩; have HR2 := hide h5; clear h5)))
          go_ret
          exact ⟨_, rfl, rfl, HR2.out, h4.trans h6⟩
/-! ### what is read: a word, a bool, a text, bytes -/
theorem wordC (w : World) (R : Nat) (a : Option Addr) (c : Nat) (bs : List Int) (at' b : Nat) (h : RSt w R a c bs at' 0 0) (hb : w.cell? ⟨b, 0, none⟩ = some (.pointer (some ⟨R, 0, none⟩))) :
    Calls Try.prog 136 #[.pointer (some ⟨b, 0, none⟩)] w (ElemPost w R a c bs (outOf (Value.int .u64) (wordO bs at'))) := by
  by_cases h1 : bs.length < at' + 8
  · have H := hide (show Calls _ _ #[_, .int .i64 8, _] _ _ from take_short_word w R a c bs at' 8 (.func (.func 138) #[] #[]) h (by omega) h1)
    rw [show wordO bs at' = .inl 6 by unfold wordO; rw [if_pos h1]]
    clear h h1
    go_enter Try.func136, Try.ntmps136
    go_wp2_with ((go_at_call 137; refine (H.out).mono ?_; rintro e w1 ⟨rfl, h2⟩))
    exact ⟨rfl, rfl, h2⟩
  · have H := hide (show Calls _ _ #[_, .int .i64 8, _] _ _ from take_word_ok w R a c bs at' 8 h (by omega) (by omega))
    rw [show wordO bs at' = .inr (vL ((bs.drop at').take 8), at' + 8) by unfold wordO; rw [if_neg h1]]
    generalize vL ((bs.drop at').take 8) = y at H ⊢
    clear h h1
    go_enter Try.func136, Try.ntmps136
    go_wp2_with ((go_at_call 137; refine (H.out).mono ?_; rintro e w1 ⟨rfl, h3, h4⟩; have HR := hide h3; clear h3))
    go_ret
    exact ⟨_, rfl, rfl, HR.out, h4⟩
theorem boolC (w : World) (R : Nat) (a : Option Addr) (c : Nat) (bs : List Int) (at' b : Nat) (h : RSt w R a c bs at' 0 0) (hb : w.cell? ⟨b, 0, none⟩ = some (.pointer (some ⟨R, 0, none⟩))) :
    Calls Try.prog 144 #[.pointer (some ⟨b, 0, none⟩)] w (ElemPost w R a c bs (outOf Value.bool (boolO bs at'))) := by
  by_cases h1 : bs.length < at' + 1
  · have H := hide (show Calls _ _ #[_, .int .i64 1, _] _ _ from take_short_truth w R a c bs at' 1 (.func (.func 146) #[] #[]) h (by omega) h1)
    rw [show boolO bs at' = .inl 6 by unfold boolO; rw [if_pos h1]]
    clear h h1
    go_enter Try.func144, Try.ntmps144
    go_wp2_with ((go_at_call 145; refine (H.out).mono ?_; rintro e w1 ⟨rfl, h2⟩))
    exact ⟨rfl, rfl, h2⟩
  · by_cases h2 : 1 < bs.getD at' 0
    · have H := hide (show Calls _ _ #[_, .int .i64 1, _] _ (Bad w R a c bs 5) from take_truth w R a c bs at' 1 h (by omega) _ (fun _ h => by cases h.1) fun W hR hF =>
        (truth_bad W (sa a c at') 1 (c - at') (bs.getD at' 0) (by rw [← one_at bs at' (by omega)]; exact bin_sub hR.bin at' 1 (by omega)) h2).mono fun e w' ⟨h1, h2⟩ => by subst h2; exact ⟨h1, ⟨_, hR⟩, hF⟩)
      rw [show boolO bs at' = .inl 5 by unfold boolO; rw [if_neg h1, if_pos h2]]
      clear h h1 h2
      go_enter Try.func144, Try.ntmps144
      go_wp2_with ((go_at_call 145; refine (H.out).mono ?_; rintro e w1 ⟨rfl, h2⟩))
      exact ⟨rfl, rfl, h2⟩
    · have H := hide (show Calls _ _ #[_, .int .i64 1, _] _ (Got w R a c bs (.bool (bs.getD at' 0 == 1)) (at' + 1)) from take_truth w R a c bs at' 1 h (by omega) _ (fun _ h => by cases h.1) fun W hR hF =>
        (truth_ok W (sa a c at') 1 (c - at') (bs.getD at' 0) (by rw [← one_at bs at' (by omega)]; exact bin_sub hR.bin at' 1 (by omega)) h2).mono fun e w' ⟨h1, h2⟩ => by subst h2; exact ⟨h1, hR, hF⟩)
      rw [show boolO bs at' = .inr (bs.getD at' 0 == 1, at' + 1) by unfold boolO; rw [if_neg h1, if_neg h2]]
      generalize (bs.getD at' 0 == 1) = y at H ⊢
      clear h h1 h2
      go_enter Try.func144, Try.ntmps144
      go_wp2_with ((go_at_call 145; refine (H.out).mono ?_; rintro e w1 ⟨rfl, h3, h4⟩; have HR := hide h3; clear h3))
      go_ret
      exact ⟨_, rfl, rfl, HR.out, h4⟩
/-- The text that bytes are. -/
def st (zs : List Int) : ByteArray := strOfNums zs
theorem conv_any (w : World) (a : Option Addr) (n c : Nat) (zs : List Int) (h : BIn w (.slice a n c) zs) : (convert 32 9 (.slice a n c)).run Try.prog w = .ok (.string (st zs)) w := by
  obtain ⟨a', c', e1, _, hz⟩ := h
  obtain ⟨rfl, rfl, rfl⟩ : a = a' ∧ n = zs.length ∧ c = c' := by cases e1; exact ⟨rfl, rfl, rfl⟩
  by_cases hne : zs = []
  · subst hne
    cases a with
    | none => exact run_convert_bytes_nil w _ _ Try.underlying32 Try.underlying5 _ _ _ Try.underlying9
    | some ad =>
      rw [run_convert_bytes_string w _ _ _ _ _ _ Try.underlying32 Try.underlying5 Try.underlying9]
      exact run_bytesToString w ad 0 c [] (by simp [loadCells, loadCellsFrom])
  · obtain ⟨B, o, rfl, _, hc⟩ := hz hne
    exact run_convert_bytes_arg w _ _ Try.underlying32 Try.underlying5 B o _ c zs rfl hc _ Try.underlying9
theorem text11 (w : World) (a : Option Addr) (n c : Nat) (zs : List Int) (h : BIn w (.slice a n c) zs) : Calls Try.prog 123 #[.slice a n c] w fun e w' => e = .returned (.string (st zs)) ∧ w = w' := by
  have H := conv_any w a n c zs h
  clear h
  go_enter Try.func123, Try.ntmps123
  go_wp2
  go_ret
  exact ⟨rfl, rfl⟩
end WirJ
end Go.Proofs.Ytplinpbmncccoaa
