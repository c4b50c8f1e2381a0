/- The small known run 'lives' answers true. -/
import Derived.Test.YtcpagamkpmmgpaaDoorNumber
import Derived.Test.YtcpagamkpmmgpaaDoorWriter3
namespace Go.Proofs.YtcpagamkpmmgpaaDoor
open Go.RowKit
set_option linter.unusedVariables false
set_option maxRecDepth 100000

theorem rnumber_short (b p m : Nat) (rv : Value) (rs : List Int) (w : World) (h : RdS w b rv rs p 0) (hm1 : 1 ≤ m) (hm4 : m ≤ 4) (hm : rs.length < p + m) :
    Calls Tryd.prog 19 #[.pointer (some ⟨b, 0, none⟩), .int .i64 m] w fun e w' => e = .returned (.int .u32 0) ∧
      RdS w' b rv rs p 10 ∧ Touch (fun k => k = b) w w' ∧ w'.heap.size = w.heap.size := by
  have hd1 : decide ((m : Int) < 1) = false := by simp; omega
  have hd2 : decide ((4 : Int) < m) = false := by simp; omega
  go_enter Tryd.func19, Tryd.ntmps19
  go_wp2_with (go_at_call 36; refine (cut_short _ p m _ rs _ h (by omega) (by omega)).mono ?_; rintro e w' ⟨rfl, hrest⟩)
  go_rounds 1
  go_ret
  exact ⟨rfl, hrest⟩

/-- Done of a whole writer: a copy of its bytes, in new memory. -/
theorem done_ok (b : Nat) (v : Value) (bs : List Int) (most : Int) (w : World) (h : WrS w b v bs most 0) (hcap : bs.length ≤ 1099511627776) :
    Calls Tryd.prog 30 #[.pointer (some ⟨b, 0, none⟩)] w fun e w' => ∃ v', e = .returned (.tuple #[v', .int .i64 0]) ∧ w'.ownsRow w.heap.size 5 1 v' bs.length (bytesOf bs) ∧ Touch (fun _ => False) w w' := by
  have h0 := h.made
  have h1 := h.row
  have h3 := h.err
  rcases h.own.2 with ⟨rfl, e⟩ | ⟨g, cap, cur, rfl, hbg, hg, hnc, hcm, hcs, htake⟩
  · obtain rfl : bs = [] := List.eq_nil_of_length_eq_zero e
    go_enter Tryd.func30, Tryd.ntmps30
    go_wp2_with (first | (go_at_call 58; refine (whole_any _ 0 _ (by assumption) (by assumption)).mono ?_; rintro e w' ⟨rfl, rfl⟩) | (go_at_call 33; refine (clone_nil _).mono ?_; rintro e w' ⟨rfl, rfl⟩))
    go_ret2
    exact ⟨_, rfl, World.ownsRow_nil _ _ _ _, Touch.refl _ _⟩
  · have hs : ∀ j u, (bytesOf bs)[j]? = some u → w.cell? ((⟨g, 0, none⟩ : Addr).add j) = some u := h.own.cells (g := g) rfl
    go_enter Tryd.func30, Tryd.ntmps30
    go_wp2_with (first | (go_at_call 58; refine (whole_any _ 0 _ (by assumption) (by assumption)).mono ?_; rintro e w' ⟨rfl, rfl⟩) | (go_at_call 33; refine (clone_some _ _ bs _ hs hcap).mono ?_; rintro e w' ⟨v', rfl, hown, ht, hne⟩))
    go_ret2
    exact ⟨_, rfl, hown, ht⟩

/-- Read: a whole reader of a copy. -/
theorem read_ok (v : Value) (bs : List Int) (w : World) (h : RowAt w v bs) (hby : ∀ x ∈ bs, 0 ≤ x ∧ x < 256) (hcap : bs.length ≤ 1099511627776) :
    Calls Tryd.prog 8 #[v] w fun e w' => ∃ b rv, e = .returned (.pointer (some ⟨b, 0, none⟩)) ∧ w.heap.size ≤ b ∧ RdS w' b rv bs 0 0 ∧ (∀ k, rv.ownBlock = some k → w.heap.size ≤ k) ∧ Touch (fun _ => False) w w' := by
  rcases h with ⟨rfl, rfl⟩ | ⟨g, off, c, rfl, hlc, hcm, hcells⟩
  · go_enter Tryd.func8, Tryd.ntmps8
    go_wp2_with (go_at_call 33; refine (clone_nil _).mono ?_; rintro e w' ⟨rfl, rfl⟩)
    go_ret
    exact ⟨_, _, rfl, Nat.le_refl _, ⟨by simp, by simp, by simp, by simp, by simp, by simp, by simp, Or.inl ⟨rfl, rfl⟩, by simp [Value.ownBlock], by simp, by simp [Value.ownBlock]⟩, by simp [Value.ownBlock], (Touch.refl _ _).alloc _⟩
  · have hs : ∀ j u, (bytesOf bs)[j]? = some u → w.cell? ((⟨g, off, none⟩ : Addr).add j) = some u := fun j u hj => by rw [add_plain]; exact hcells j u hj
    go_enter Tryd.func8, Tryd.ntmps8
    go_wp2_with (go_at_call 33; refine (clone_some _ _ bs _ hs hcap).mono ?_; rintro e w' ⟨v', rfl, hown, ht, hne⟩; obtain ⟨va, vc, rfl, _⟩ := rowAt_form (own_rowAt hown))
    go_ret
    refine ⟨_, .slice va bs.length vc, rfl, ht.size, ⟨by simp, by simp, by simp, by simp, by simp, by simp, by simp, ?_, ?_, hby, fun k hk => by have := (hown.lt k hk).2; simp; omega⟩, fun k hk => (hown.lt k hk).1, ht.alloc _⟩
    · exact (own_rowAt hown).touch ((Touch.refl (fun _ => False) _).alloc _) (fun _ _ h => h)
    · intro hk; have := (hown.lt _ hk).2; omega

theorem wrF_new {w : World} {b B : Nat} {v : Value} {bs : List Int} {most err : Int} (h : WrS w b v bs most err) (hb : B ≤ b) : ∀ i, i < B → wrF b v i → False := by
  intro i hi hf
  rcases hf with hf | hf
  · omega
  · have := (h.own.lt i hf).1; omega

theorem lives_any (w : World) : Calls Tryd.prog 6 #[] w fun e w' => e = .returned (.bool true) ∧ Touch (fun _ => False) w w' := by
  go_enter Tryd.func6, Tryd.ntmps6
  go_wp2_with fail
  refine (write_any 4 w (by omega)).mono ?_
  rintro e w1 ⟨rfl, hw1, t1⟩
  go_wp2_with fail
  refine (number_ok2 _ _ [] 4 258 w1 hw1 (by omega) (by simp) (by simp)).mono ?_
  rintro e w2 ⟨rfl, v2, hw2, t2, a2⟩
  rw [show ([] : List Int) ++ numBytes 2 258 = [1, 2] from by decide] at hw2
  go_wp2_with fail
  refine (put_ok _ _ [1, 2] 4 ⟨w2.heap.size, 0, none⟩ 1 [7] _ (hw2.alloc _) (src_new _ _ _ _ _ (by simp [bytesOf])) (by simp) (by simp)).mono ?_
  rintro e w3 ⟨rfl, v3, hw3, t3, a3⟩
  go_wp2_with fail
  refine (patch_ok1 _ _ ([1, 2] ++ [7]) 4 9 1 w3 hw3 (by omega) (by simp)).mono ?_
  rintro e w4 ⟨rfl, hw4, t4⟩
  rw [show splice ([1, 2] ++ [7] : List Int) 1 (numBytes 1 9) = [1, 9, 7] from by decide] at hw4
  go_wp2_with fail
  refine (done_ok _ _ [1, 9, 7] 4 w4 hw4 (by simp)).mono ?_
  rintro e w5 ⟨v5, rfl, own5, t5⟩
  obtain ⟨va, vc, rfl, _⟩ := rowAt_form (own_rowAt own5)
  go_wp2_with fail
  refine (read_ok _ [1, 9, 7] w5 (own_rowAt own5) (by decide) (by simp)).mono ?_
  rintro e w6 ⟨b, rv, rfl, hb, hr6, hrv, t6⟩
  go_wp2_with fail
  refine (rnumber_ok b 0 3 rv [1, 9, 7] w6 hr6 (by omega) (by omega) (by simp)).mono ?_
  rintro e w7 ⟨rfl, hr7, t7, _⟩
  rw [show numVal (([1, 9, 7] : List Int).drop 0 |>.take 3) = 67847 from by decide]
  go_wp2_with fail
  refine (rnumber_short b (0 + 3) 1 rv [1, 9, 7] w7 hr7 (by omega) (by omega) (by simp)).mono ?_
  rintro e w8 ⟨rfl, hr8, t8, _⟩
  have h0 := hr8.made
  have h2 := hr8.pos
  have h3 := hr8.err
  go_wp2_with (first | (go_at_call 31; refine (err_any _ 10 _ (by assumption) (by assumption)).mono ?_; rintro e w' ⟨rfl, rfl⟩) | (go_at_call 32; refine (at_any _ 3 _ (by assumption)).mono ?_; rintro e w' ⟨rfl, rfl⟩))
  go_ret
  refine ⟨rfl, ?_⟩
  have hB : w.heap.size ≤ b := by have := t1.size; have := t2.size; have := t3.size; simp at this; have := t4.size; have := t5.size; omega
  have u2 := t1.trans' t2 (fun i hi hf => wrF_new hw1 (Nat.le_refl _) i hi hf)
  have u3 := (u2.alloc (.cells #[.int .u8 7] 5)).trans' t3 (fun i hi hf => wrF_new hw2 (Nat.le_refl _) i hi hf)
  have u4 := u3.trans' t4 (fun i hi hf => wrF_new hw3 (Nat.le_refl _) i hi hf)
  have u6 := (u4.trans t5).trans t6
  have u7 := u6.trans' t7 (fun i hi hf => by omega)
  exact u7.trans' t8 (fun i hi hf => by omega)
end Go.Proofs.YtcpagamkpmmgpaaDoor
