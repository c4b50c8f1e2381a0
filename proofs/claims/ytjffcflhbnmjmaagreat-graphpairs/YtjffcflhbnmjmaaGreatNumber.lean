/- Contracts of Clone, Write, Done, Read and of the reader's methods. -/
import Derived.Test.YtjffcflhbnmjmaaGreatParts
import Derived.Lib.SliceRun
import Derived.Test.YtjffcflhbnmjmaaGreatStaMath
namespace Go.Proofs.YtjffcflhbnmjmaaGreat
open Go.RowKit
set_option linter.unusedVariables false
set_option maxRecDepth 100000

theorem Tryz.info5r : (Tryz.prog.info? 5).map (fun i => (i.zero, i.size, i.bytes)) = some (some (.int .u8 0), 1, 1) := by kernel_rfl

theorem clone_some (ad : Addr) (c : Nat) (ns : List Int) (w : World) (hs : ∀ j u, (bytesOf ns)[j]? = some u → w.cell? (ad.add j) = some u) (hcap : ns.length ≤ 1099511627776) :
    Calls Tryz.prog 118 #[.slice (some ad) ns.length c] w fun e w' => ∃ v, e = .returned v ∧ w'.ownsRow w.heap.size 5 1 v ns.length (bytesOf ns) ∧ Touch (fun _ => False) w w' ∧ v.ownBlock ≠ none := by
  obtain ⟨i0, hi, hz0, hz1, hz2⟩ := info_parts Tryz.info5r
  have hq := fun (w : World) (a : Option Addr) (n c n' c' : Nat) => Lib.run_eql_slice_nil (P := Tryz.prog) w 50 5 a n c n' c' Tryz.underlying50
  go_enter Tryz.func118, Tryz.ntmps118
  go_wp2_with (at_builtin; refine wpList_append_own_at _ rfl (.tmp 5) (.tmp 6) 50 rfl w.heap.size 5 i0 (.int .u8 0) 1 1 Tryz.underlying50 hi hz0 hz1 hz2 rfl (by decide) (.slice (some ⟨w.heap.size, 0, none⟩) 0 0) 0 [] rfl ?c0 ad ns.length c (bytesOf ns) rfl ?c6 ?c1 ?c2 ?c3 ?c4 ?c5 ?_)
  case c0 => exact World.ownsRow_lit w #[] 0 (Nat.le_refl _) (by simp [maxLen]) (by simp)
  case c6 => simp [length_bytesOf]
  case c1 => exact fun j u hj => ((Touch.refl _ w).alloc _).cellN (hs j u hj)
  case c2 => exact oneCell_bytesOf ns
  case c3 => unfold maxLen; omega
  case c4 => omega
  case c5 => simp
  intro v' w1 hown' hgrow _ hat
  have t1 : Touch (fun _ => False) w w1 := ((Touch.refl _ w).alloc _).grown hgrow (fun k hk => Or.inr (by simp [Value.ownBlock] at hk; omega))
  have hne : v'.ownBlock ≠ none := by rcases hat with h | h <;> rw [h] <;> simp [Value.ownBlock]
  clear hgrow hat
  go_wp2
  go_ret
  exact ⟨v', rfl, by simpa using hown', t1, hne⟩

theorem clone_nil (w : World) :
    Calls Tryz.prog 118 #[.slice none 0 0] w fun e w' => e = .returned (.slice none 0 0) ∧ w = w' := by
  have hq := fun (w : World) (a : Option Addr) (n c n' c' : Nat) => Lib.run_eql_slice_nil (P := Tryz.prog) w 50 5 a n c n' c' Tryz.underlying50
  go_enter Tryz.func118, Tryz.ntmps118
  go_wp2
  go_ret
  exact ⟨rfl, rfl⟩

theorem write_any (most : Int) (w : World) (hm : 0 ≤ most) :
    Calls Tryz.prog 96 #[.int .i64 most] w fun e w' => e = .returned (.pointer (some ⟨w.heap.size, 0, none⟩)) ∧ WrS w' w.heap.size (.slice none 0 0) [] most 0 ∧ Touch (fun _ => False) w w' := by
  go_enter Tryz.func96, Tryz.ntmps96
  go_wp2
  go_ret
  refine ⟨rfl, ⟨by simp, by simp, by first | (simp; done) | (simp; omega), by simp, by simp, by simp, World.ownsRow_nil _ _ _ _⟩, (Touch.refl _ w).alloc _⟩

theorem err_any (b : Nat) (err : Int) (w : World) (h0 : w.cell? ⟨b, 0, none⟩ = some (.bool true)) (h3 : w.cell? ⟨b, 3, none⟩ = some (.int .i64 err)) :
    Calls Tryz.prog 102 #[.pointer (some ⟨b, 0, none⟩)] w fun e w' => e = .returned (.int .i64 err) ∧ w = w' := by
  go_enter Tryz.func102, Tryz.ntmps102
  go_wp2
  go_ret
  exact ⟨rfl, rfl⟩

theorem rwhole_any (b : Nat) (err : Int) (w : World) (h0 : w.cell? ⟨b, 0, none⟩ = some (.bool true)) (h3 : w.cell? ⟨b, 3, none⟩ = some (.int .i64 err)) :
    Calls Tryz.prog 131 #[.pointer (some ⟨b, 0, none⟩)] w fun e w' => e = .returned (.bool (err == 0)) ∧ w = w' := by
  go_enter Tryz.func131, Tryz.ntmps131
  go_wp2_with (go_at_call 102; refine (err_any _ err _ (by assumption) (by assumption)).mono ?_; rintro e w' ⟨rfl, rfl⟩)
  go_ret
  exact ⟨rfl, rfl⟩

theorem left_ok (b p : Nat) (rv : Value) (rs : List Int) (w : World) (h : RdS w b rv rs p 0) :
    Calls Tryz.prog 103 #[.pointer (some ⟨b, 0, none⟩)] w fun e w' => e = .returned (.int .i64 ((rs.length : Int) - p)) ∧ ∃ n, w' = w.drewN n := by
  obtain ⟨a, c, rfl, hm⟩ := rowAt_form h.rowAt
  unfold maxLen at hm
  have h0 := h.made
  have h1 := h.row
  have h2 := h.pos
  have h3 := h.err
  have hp := h.ple
  go_enter Tryz.func103, Tryz.ntmps103
  go_wp2_with (go_at_call 131; refine (rwhole_any _ 0 _ (by assumption) (by assumption)).mono ?_; rintro e w' ⟨rfl, rfl⟩)
  go_quiet (fail)
  go_wp2
  go_ret
  exact ⟨rfl, _, rfl⟩

theorem left_dead (b : Nat) (err : Int) (w : World) (h0 : w.cell? ⟨b, 0, none⟩ = some (.bool true)) (h3 : w.cell? ⟨b, 3, none⟩ = some (.int .i64 err)) (he : (err == 0) = false) :
    Calls Tryz.prog 103 #[.pointer (some ⟨b, 0, none⟩)] w fun e w' => e = .returned (.int .i64 0) ∧ w = w' := by
  go_enter Tryz.func103, Tryz.ntmps103
  go_wp2_with (go_at_call 131; refine (rwhole_any _ err _ (by assumption) (by assumption)).mono ?_; rintro e w' ⟨rfl, rfl⟩)
  go_ret
  exact ⟨rfl, rfl⟩

/-- refuse: a whole reader takes the error, another one stays. -/
theorem refuse_ok (b : Nat) (q : Int) (w : World) (h0 : w.cell? ⟨b, 0, none⟩ = some (.bool true)) (h3 : w.cell? ⟨b, 3, none⟩ = some (.int .i64 0)) (hf : w.frozen? ⟨b, 3, none⟩ = false) :
    Calls Tryz.prog 168 #[.pointer (some ⟨b, 0, none⟩), .int .i64 q] w fun e w' => e = .returned (.tuple #[]) ∧ w.setCell ⟨b, 3, none⟩ (.int .i64 q) = w' := by
  go_enter Tryz.func168, Tryz.ntmps168
  go_wp2_with (go_at_call 131; refine (rwhole_any _ 0 _ (by assumption) (by assumption)).mono ?_; rintro e w' ⟨rfl, rfl⟩)
  go_end0
  exact ⟨rfl, rfl⟩

theorem refuse_dead (b : Nat) (q err : Int) (w : World) (h0 : w.cell? ⟨b, 0, none⟩ = some (.bool true)) (h3 : w.cell? ⟨b, 3, none⟩ = some (.int .i64 err)) (he : (err == 0) = false) :
    Calls Tryz.prog 168 #[.pointer (some ⟨b, 0, none⟩), .int .i64 q] w fun e w' => e = .returned (.tuple #[]) ∧ w = w' := by
  go_enter Tryz.func168, Tryz.ntmps168
  go_wp2_with (go_at_call 131; refine (rwhole_any _ err _ (by assumption) (by assumption)).mono ?_; rintro e w' ⟨rfl, rfl⟩)
  go_end0
  exact ⟨rfl, rfl⟩
end Go.Proofs.YtjffcflhbnmjmaaGreat

namespace Go.Proofs.YtjffcflhbnmjmaaGreat
open Go.RowKit
set_option linter.unusedVariables false
set_option maxRecDepth 100000

theorem row_sub {w : World} {g off : Nat} {rs : List Int} (hc : ∀ j u, (bytesOf rs)[j]? = some u → w.cell? ⟨g, off + j, none⟩ = some u) (p m : Nat) (hm : p + m ≤ rs.length) (hcm : rs.length ≤ maxLen) :
    RowAt w (.slice (some ⟨g, off + p, none⟩) m m) ((rs.drop p).take m) := by
  have hl : ((rs.drop p).take m).length = m := by simp; omega
  refine Or.inr ⟨g, off + p, m, by rw [hl], by omega, by omega, ?_⟩
  intro j u hj
  have : (bytesOf rs)[p + j]? = some u := by
    simp only [bytesOf, List.map_take, List.map_drop, List.getElem?_take, List.getElem?_drop] at hj ⊢
    split at hj
    · exact hj
    · simp at hj
  have := hc _ _ this
  rwa [← Nat.add_assoc] at this

theorem row_none (w : World) (g off : Nat) : RowAt w (.slice (some ⟨g, off, none⟩) 0 0) [] :=
  Or.inr ⟨g, off, 0, by simp, by simp, by simp [maxLen], by intro j u hj; simp [bytesOf] at hj⟩

theorem cut_ok (b p m : Nat) (rv : Value) (rs : List Int) (w : World) (h : RdS w b rv rs p 0) (hm : p + m ≤ rs.length) :
    Calls Tryz.prog 169 #[.pointer (some ⟨b, 0, none⟩), .int .i64 m] w fun e w' => ∃ sv, e = .returned sv ∧ RowAt w' sv ((rs.drop p).take m) ∧ (sv.ownBlock = none ∨ sv.ownBlock = rv.ownBlock) ∧
      RdS w' b rv rs (p + m) 0 ∧ Touch (fun k => k = b) w w' ∧ w'.heap.size = w.heap.size := by
  have h0 := h.made
  have h1 := h.row
  have h2 := h.pos
  have h3 := h.err
  have hf2 := h.f2
  have hlt := lt_of_cell h0
  have HW : ∀ n, RdS (w.drewN n) b rv rs p 0 := fun n => h.drewN n
  rcases h.rowAt with ⟨rfl, rfl⟩ | ⟨g, off, c, rfl, hlc, hcm, hcells⟩
  · obtain rfl : p = 0 := by simpa using h.ple
    obtain rfl : m = 0 := by simpa using hm
    go_enter Tryz.func169, Tryz.ntmps169
    go_wp2_with (first | (go_at_call 103; refine (left_ok _ 0 _ [] _ h).mono ?_; rintro e w' ⟨rfl, nl, rfl⟩) | (go_at_call 131; refine (rwhole_any _ 0 _ (HW _).made (HW _).err).mono ?_; rintro e w' ⟨rfl, rfl⟩))
    go_quiet (fail)
    have HB : Hid (RdS ((w.drewN nl).setCell ⟨b, 2, none⟩ (.int .i64 ((0 : Nat) : Int))) b (.slice none 0 0) [] 0 0) := (h.drewN nl).setPos 0 (by simp)
    have HT : Hid (Touch (fun k => k = b) w ((w.drewN nl).setCell ⟨b, 2, none⟩ (.int .i64 ((0 : Nat) : Int)))) := Touch.setCell (F := fun k => k = b) (p := ⟨b, 2, none⟩) ((Touch.refl _ w).drewN nl) (Or.inl rfl) _
    clear h0 h1 h2 h3 hf2 HW h
    go_wp2
    go_ret
    exact ⟨_, rfl, Or.inl ⟨rfl, rfl⟩, Or.inl rfl, HB.out.drewN _, HT.out.drewN _, by simp [World.setCell, World.drewN]⟩
  · unfold maxLen at hcm
    by_cases hm0 : m = 0
    · subst hm0
      go_enter Tryz.func169, Tryz.ntmps169
      go_wp2_with (first | (go_at_call 103; refine (left_ok _ p _ rs _ h).mono ?_; rintro e w' ⟨rfl, nl, rfl⟩) | (go_at_call 131; refine (rwhole_any _ 0 _ (HW _).made (HW _).err).mono ?_; rintro e w' ⟨rfl, rfl⟩))
      go_quiet (fail)
      have HB : Hid (RdS ((w.drewN nl).setCell ⟨b, 2, none⟩ (.int .i64 ((p : Nat) : Int))) b (.slice (some ⟨g, off, none⟩) rs.length c) rs p 0) := (h.drewN nl).setPos p hm
      have HT : Hid (Touch (fun k => k = b) w ((w.drewN nl).setCell ⟨b, 2, none⟩ (.int .i64 ((p : Nat) : Int)))) := Touch.setCell (F := fun k => k = b) (p := ⟨b, 2, none⟩) ((Touch.refl _ w).drewN nl) (Or.inl rfl) _
      clear h0 h1 h2 h3 hf2 HW h
      go_wp2
      go_ret
      exact ⟨.slice (some ⟨g, off, none⟩) 0 0, rfl, row_none _ _ _, Or.inr rfl, HB.out.drewN _, HT.out.drewN _, by simp [World.setCell, World.drewN]⟩
    · have hpm : ¬ p + m = p := by omega
      have hpp : p + m - p = m := by omega
      go_enter Tryz.func169, Tryz.ntmps169
      go_wp2_with (first | (go_at_call 103; refine (left_ok _ p _ rs _ h).mono ?_; rintro e w' ⟨rfl, nl, rfl⟩) | (go_at_call 131; refine (rwhole_any _ 0 _ (HW _).made (HW _).err).mono ?_; rintro e w' ⟨rfl, rfl⟩))
      go_quiet (fail)
      have HB : Hid (RdS ((w.drewN nl).setCell ⟨b, 2, none⟩ (.int .i64 ((p : Int) + (m : Int)))) b (.slice (some ⟨g, off, none⟩) rs.length c) rs (p + m) 0) := (h.drewN nl).setPos (p + m) hm
      have HT : Hid (Touch (fun k => k = b) w ((w.drewN nl).setCell ⟨b, 2, none⟩ (.int .i64 ((p : Int) + (m : Int))))) := Touch.setCell (F := fun k => k = b) (p := ⟨b, 2, none⟩) ((Touch.refl _ w).drewN nl) (Or.inl rfl) _
      clear h0 h1 h2 h3 hf2 HW h
      go_wp2
      go_ret
      refine ⟨.slice (some ⟨g, off + p, none⟩) (p + m - p) (p + m - p), rfl, ?_, Or.inr rfl, HB.out.drewN _, HT.out.drewN _, by simp [World.setCell, World.drewN]⟩
      rw [hpp]
      refine row_sub (fun j u hj => ?_) p m hm (by unfold maxLen; omega)
      exact ((HT.out.drewN _).cell (p := ⟨g, off + j, none⟩) (lt_of_cell (hcells j u hj)) (by have := HB.out.ne; simpa [Value.ownBlock] using this)).trans (hcells j u hj)

/-- Where fewer bytes are left: no bytes, and the reader is short from then on. -/
theorem cut_short (b p : Nat) (m : Int) (rv : Value) (rs : List Int) (w : World) (h : RdS w b rv rs p 0) (hm : (rs.length : Int) < p + m) (hmm : m ≤ 9223372036854775807) :
    Calls Tryz.prog 169 #[.pointer (some ⟨b, 0, none⟩), .int .i64 m] w fun e w' => e = .returned (.slice none 0 0) ∧ RdS w' b rv rs p 10 ∧ Touch (fun k => k = b) w w' ∧ w'.heap.size = w.heap.size := by
  have hple := h.ple
  have hm1 : (rs.length : Int) - p < m := by omega
  have hm2 : ¬ m < 0 := by omega
  have HW : ∀ n, RdS (w.drewN n) b rv rs p 0 := fun n => h.drewN n
  have hlt := lt_of_cell h.made
  clear hm
  go_enter Tryz.func169, Tryz.ntmps169
  go_wp2_with (first | (go_at_call 103; refine (left_ok _ p _ rs _ h).mono ?_; rintro e w' ⟨rfl, nl, rfl⟩) | (go_at_call 168; refine (refuse_ok _ 10 _ (HW _).made (HW _).err (HW _).f3).mono ?_; rintro e w' ⟨rfl, rfl⟩) | (go_at_call 131; refine (rwhole_any _ 10 _ ((HW _).setErr 10).made ((HW _).setErr 10).err).mono ?_; rintro e w' ⟨rfl, rfl⟩))
  go_ret
  exact ⟨rfl, (HW _).setErr 10, Touch.setCell (F := fun k => k = b) (p := ⟨b, 3, none⟩) ((Touch.refl _ w).drewN _) (Or.inl rfl) _, by simp [World.setCell, World.drewN]⟩
end Go.Proofs.YtjffcflhbnmjmaaGreat

namespace Go.Proofs.YtjffcflhbnmjmaaGreat
open Go.RowKit
set_option linter.unusedVariables false
set_option maxRecDepth 100000

/-- The number that bytes are, the highest first. -/
def numVal (l : List Int) : Int := l.foldl (fun a x => a * 256 + x) 0
theorem numVal_snoc (l : List Int) (x : Int) : numVal (l ++ [x]) = numVal l * 256 + x := by simp [numVal]
theorem numVal_take (l : List Int) (k : Nat) (h : k < l.length) : numVal (l.take (k + 1)) = numVal (l.take k) * 256 + l.getD k 0 := by
  rw [List.take_succ_eq_append_getElem h, numVal_snoc]; simp [List.getD, h]
theorem numVal_bd (l : List Int) (hb : ∀ x ∈ l, 0 ≤ x ∧ x < 256) (k : Nat) : 0 ≤ numVal (l.take k) ∧ numVal (l.take k) < 256 ^ k := by
  induction k with
  | zero => simp [numVal]
  | succ k ih =>
    by_cases h : k < l.length
    · rw [numVal_take l k h]
      have hx := hb (l.getD k 0) (by simp [List.getD, h])
      have e : (256 : Int) ^ (k + 1) = 256 ^ k * 256 := Int.pow_succ _ _
      omega
    · rw [List.take_of_length_le (by omega)] at ih ⊢
      have e : (256 : Int) ^ (k + 1) = 256 ^ k * 256 := Int.pow_succ _ _
      have : (0 : Int) < 256 ^ k := Int.pow_pos (by decide)
      omega
theorem pow_3 (k : Nat) (h : k ≤ 3) : (256 : Int) ^ k ≤ 16777216 := by
  rcases (by omega : k = 0 ∨ k = 1 ∨ k = 2 ∨ k = 3) with rfl | rfl | rfl | rfl <;> decide

theorem or_low (x y : Int) (hx : 0 ≤ x) (hx1 : x < 16777216) (hy : 0 ≤ y) (hy1 : y < 256) : bits .or .u32 (x * 256) y = x * 256 + y := by
  rw [u32_or _ _ (by omega) (by omega) (by omega) (by omega)]
  have e1 : (x * 256).toNat = x.toNat <<< 8 := by rw [Nat.shiftLeft_eq]; omega
  rw [e1, ← Nat.shiftLeft_add_eq_or_of_lt (by omega), Nat.shiftLeft_eq]
  omega

theorem bytes_sub {rs : List Int} (hb : ∀ x ∈ rs, 0 ≤ x ∧ x < 256) (p m : Nat) : ∀ x ∈ (rs.drop p).take m, 0 ≤ x ∧ x < 256 :=
  fun x hx => hb x (List.mem_of_mem_drop (List.mem_of_mem_take hx))

theorem cut_num (b p m : Nat) (rv : Value) (rs : List Int) (w : World) (h : RdS w b rv rs p 0) (hm1 : 1 ≤ m) (hm : p + m ≤ rs.length) :
    Calls Tryz.prog 169 #[.pointer (some ⟨b, 0, none⟩), .int .i64 m] w fun e w' => ∃ (g off c : Nat) (zs : List Int), e = .returned (.slice (some ⟨g, off, none⟩) m c) ∧ Hid (zs = (rs.drop p).take m) ∧ zs.length = m ∧
      (∀ j, j < m → w'.cell? ⟨g, off + j, none⟩ = some (.int .u8 (zs.getD j 0))) ∧ Hid (∀ x ∈ zs, 0 ≤ x ∧ x < 256) ∧ Hid (RdS w' b rv rs (p + m) 0 ∧ Touch (fun k => k = b) w w' ∧ w'.heap.size = w.heap.size) := by
  refine (cut_ok b p m rv rs w h hm).mono ?_
  rintro e w' ⟨sv, rfl, hrow, hown, hrd, ht, hsz⟩
  have hl : ((rs.drop p).take m).length = m := by simp; omega
  rcases hrow with ⟨_, e⟩ | ⟨g, off, c, rfl, h1, h2, h3⟩
  · rw [e] at hl; simp at hl; omega
  · refine ⟨g, off, c, _, by rw [hl], rfl, hl, fun j hj => h3 j _ ?_, bytes_sub h.byte p m, hrd, ht, hsz⟩
    simp only [bytesOf, List.getElem?_map]
    rw [List.getElem?_eq_getElem (by omega)]
    simp [List.getD, hl, hj]

theorem rnumber_ok (b p m : Nat) (rv : Value) (rs : List Int) (w : World) (h : RdS w b rv rs p 0) (hm1 : 1 ≤ m) (hm4 : m ≤ 4) (hm : p + m ≤ rs.length) :
    Calls Tryz.prog 152 #[.pointer (some ⟨b, 0, none⟩), .int .i64 m] w fun e w' => e = .returned (.int .u32 (numVal ((rs.drop p).take m))) ∧
      RdS w' b rv rs (p + m) 0 ∧ Touch (fun k => k = b) w w' ∧ w'.heap.size = w.heap.size := by
  have hd1 : decide ((m : Int) < 1) = false := by simp; omega
  have hd2 : decide ((4 : Int) < m) = false := by simp; omega
  go_enter Tryz.func152, Tryz.ntmps152
  go_wp2_with (go_at_call 169; refine (cut_num _ p m _ rs _ h hm1 hm).mono ?_; rintro e w' ⟨g, off, c, zs, rfl, hzs, hzl, hcell, hby, hrest⟩)
  go_loop [5, 20] (fun v i => ∃ k : Nat, k ≤ m ∧ i = .int .i64 k ∧ v = .int .u32 (numVal (zs.take k))) (fun _ i => m - (intOf i).toNat)
  case atStart => exact ⟨0, Nat.zero_le _, rfl, rfl⟩
  case round =>
    obtain ⟨k, hk, rfl, rfl⟩ := hrel
    by_cases hlt : k < m
    · have hc := hcell k hlt
      obtain ⟨z, hz⟩ : ∃ z, z = zs.getD k 0 := ⟨_, rfl⟩
      rw [← hz] at hc
      have hx := hby.out z (by rw [hz]; simp [List.getD, show k < zs.length by omega])
      obtain ⟨hx0, hx1⟩ := hx
      obtain ⟨V, hV⟩ : ∃ V, V = numVal (zs.take k) := ⟨_, rfl⟩
      have hb := numVal_bd zs hby.out k
      have hb3 := pow_3 k (by omega)
      have HS : Hid (numVal (zs.take (k + 1)) = V * 256 + z) := by show _ = _; rw [numVal_take zs k (by omega), hV, hz]
      rw [← hV] at hb ⊢
      have hV1 : V < 16777216 := by omega
      have hV0 : 0 ≤ V := hb.1
      have hor := or_low V z hV0 hV1 hx0 hx1
      clear hb hb3 hV hz hcell
      go_wp2
      go_round
      case rel => exact ⟨k + 1, by omega, by go_num, by rw [HS.out]⟩
      case measure => simp [intOf]; omega
    · go_wp2
      go_ret
      obtain rfl : k = m := by omega
      obtain ⟨a, b', c'⟩ := hrest.out
      exact ⟨ret_int (by rw [← hzs.out, List.take_of_length_le (by omega)]), a, b', c'⟩
end Go.Proofs.YtjffcflhbnmjmaaGreat
