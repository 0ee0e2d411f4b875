/-
  CopyBytes.
-/
import Derived.Test.YtackcnncjeajpaaKitB
namespace Go.Proofs.Ytackcnncjeajpaa
namespace KitC
open Go.RowKit
open BlkM WirM WirS KitB

theorem ownNew (w : World) : Own (w.alloc (.cells #[] 5)) 5 (.slice (some ⟨w.heap.size, 0, none⟩) 0 0) [] := World.ownsRow_made w #[] 0 (Nat.zero_le _) (Nat.zero_le _) (by simp)
def NewB (w : World) (x : Value) : Prop := ∀ k, x.ownBlock = some k → w.heap.size ≤ k
theorem len_of {w : World} {T : TypeId} {v : Value} {zs : List Int} (h : Own w T v zs) : ∃ a cap, v = .slice a zs.length cap := by
  obtain ⟨a, cap, rfl, _⟩ := h.bin
  exact ⟨a, cap, rfl⟩
theorem copy_any (w : World) (a : Option Addr) (n c : Nat) (zs : List Int) (h : BIn w (.slice a n c) zs) (hn : n ≤ 1099511627776) :
    Calls Try.prog 62 #[.slice a n c] w fun e w' => ∃ va vn vc, e = .returned (.slice va vn vc) ∧ Own w' 5 (.slice va vn vc) zs ∧ NewB w (.slice va vn vc) ∧ Below w.heap.size w w' := by
  have hnl : n = zs.length := by obtain ⟨_, _, e, _⟩ := h; cases e; rfl
  obtain ⟨i0, hi, hz0, hz1, hz2⟩ := info_parts (show (Try.prog.info? 5).map (fun i => (i.zero, i.size, i.bytes)) = some (some (.int .u8 0), 1, 1) by kernel_rfl)
  have hb : Below w.heap.size w (w.alloc (.cells #[] 5)) := Below.alloc (Below.refl _ _) (Nat.le_refl _) _
  obtain ⟨v1, u1, r1, o1, f1, n1⟩ := app_any (P := Try.prog) (w.alloc (.cells #[] 5)) 32 32 32 5 i0 _ Try.underlying32 hi hz0 hz1 hz2 rfl (.slice (some ⟨w.heap.size, 0, none⟩) 0 0) (.slice a n c) [] zs (ownNew w) ((h.below hb).src Try.underlying32) (by simp; omega)
  have HB := WirS.hide (hb.trans (f1.below (B := w.heap.size) (by simp) (fun k hk hx => by simp [Value.ownBlock] at hx; omega)))
  have HN := WirS.hide (show NewB w v1 from fun k hk => by
    rcases n1 k hk with hx | hx
    · simp [Value.ownBlock] at hx
      omega
    · simp at hx
      omega)
  rw [List.nil_append] at o1
  have HO := WirS.hide o1
  clear hb f1 n1 o1 h hi hz0 hz1 hz2 hnl
  go_enter Try.func62, Try.ntmps62
  go_upto_region 1 with fail
  refine wp_region_lit ?_
  refine sV (.slice (some ⟨w.heap.size, 0, none⟩) 0 0) (w.alloc (.cells #[] 5)) (by kernel_rfl) (by kernel_rfl) ?_
  simp only [Act.put, List.setIfInBounds_toArray, List.set_cons_succ, List.set_cons_zero]
  refine sV (.slice a n c) (w.alloc (.cells #[] 5)) (by kernel_rfl) (by kernel_rfl) ?_
  simp only [Act.put, List.setIfInBounds_toArray, List.set_cons_succ, List.set_cons_zero]
  refine sA (by kernel_rfl) 32 32 _ _ (by rfl) (.slice (some ⟨w.heap.size, 0, none⟩) 0 0) (.slice a n c) (by kernel_rfl) (by kernel_rfl) (v1) (u1) r1 ?_
  simp only [Act.put, List.setIfInBounds_toArray, List.set_cons_succ, List.set_cons_zero]
  clear r1
  obtain ⟨a2, c2, e2⟩ := len_of HO.out
  obtain ⟨n2, hn2⟩ : ∃ n2, n2 = zs.length := ⟨_, rfl⟩
  rw [← hn2] at e2
  subst e2
  clear hn2
  go_wp2_with fail
  go_ret
  exact ⟨a2, n2, c2, rfl, HO.out, HN.out, HB.out⟩
end KitC
end Go.Proofs.Ytackcnncjeajpaa
