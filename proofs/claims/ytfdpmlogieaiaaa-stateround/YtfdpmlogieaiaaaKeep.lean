/- Contracts: Mask, Bits. -/
import Derived.Test.YtfdpmlogieaiaaaMaskBits
import Derived.Test.YtfdpmlogieaiaaaHeadV
import Derived.Test.YtfdpmlogieaiaaaStFace
import Derived.Deep.RegionHeld3
import Derived.Deep.DeepCutAuto
namespace Go.Proofs.Ytfdpmlogieaiaaa
open Go.RowKit
set_option linter.unusedVariables false
set_option maxRecDepth 100000

theorem mask_eq {n : Int} (h0 : 0 ≤ n) (h1 : n ≤ 32) : 4294967295 * 2 ^ (32 - n).toNat % 4294967296 = pmask n := by
  rw [pmask_le h1]
  show 4294967295 * psz n % 4294967296 = _
  have := psz_pos n; have := psz_le h0
  omega

set_option maxHeartbeats 400000 in
theorem mask_any (n : Int) (w : World) (h0 : 0 ≤ n) :
    Calls Try.prog 95 #[.int .u8 n] w fun e w' => e = .returned (.int .u32 (pmask n)) ∧ w = w' := by
  by_cases h1 : n ≤ 32
  · have hm := mask_eq h0 h1
    have H : Hid (4294967295 * 2 ^ (32 - n).toNat % 4294967296 = pmask n) := hm
    clear hm
    go_enter Try.func95, Try.ntmps95
    go_wp2
    go_ret
    exact ⟨ret_int H.out, rfl⟩
  · have h2 : 32 < n := by omega
    have H : Hid (pmask n = 0) := pmask_gt h2
    clear h1
    go_enter Try.func95, Try.ntmps95
    go_wp2
    go_ret
    exact ⟨ret_int H.out.symm, rfl⟩

set_option maxHeartbeats 400000 in
theorem bits_any (a : Int) (w : World) (h0 : 0 ≤ a) (h1 : a < 4294967296) :
    Calls Try.prog 94 #[.int .u32 a] w fun e w' => e = .returned (.tuple #[.int .u8 (pbn a), .bool (pbok a)]) ∧ w = w' := by
  go_enter Try.func94, Try.ntmps94
  go_wp2
  go_loop [4, 5] (fun n r => ∃ k : Nat, ∃ x : Int, k ≤ 32 ∧ n = .int .u8 k ∧ r = .int .u32 x ∧ 0 ≤ x ∧ x < 4294967296 ∧ Hid (x = a * 2 ^ k % 4294967296) ∧ Hid (∀ j : Nat, j < k → a * 2 ^ j % 4294967296 ≠ 0)) (fun n _ => 32 - (intOf n).toNat)
  case atStart => exact ⟨0, a, by omega, rfl, rfl, h0, h1, (by show a = _; rw [Int.pow_zero]; omega), fun j hj => absurd hj (by omega)⟩
  case round =>
    obtain ⟨k, x, hk, rfl, rfl, hx0, hx1, HX, HL⟩ := hrel
    by_cases hx : x = 0
    · subst hx
      have hp := bits_at hk HX.out.symm HL.out
      by_cases hm : pmask k = a
      · rw [if_pos hm] at hp
        have H := pb_yes hp
        have HH : Hid (pbn a = k ∧ pbok a = true) := H
        have HM : Hid (pmask k = a) := hm
        clear hp H hm
        go_wp2_with (go_at_call 95; refine (mask_any _ _ (by omega)).mono ?_; rintro e w' ⟨rfl, rfl⟩; rw [HM.out])
        go_ret2
        exact ⟨ret_bits HH.out.1.symm HH.out.2.symm, rfl⟩
      · rw [if_neg hm] at hp
        have H := pb_no hp
        have HH : Hid (pbn a = 0 ∧ pbok a = false) := H
        clear hp H
        go_wp2_with (go_at_call 95; refine (mask_any _ _ (by omega)).mono ?_; rintro e w' ⟨rfl, rfl⟩)
        go_ret2
        exact ⟨ret_bits HH.out.1.symm HH.out.2.symm, rfl⟩
    · have hk2 : k < 32 := by
        rcases Nat.lt_or_ge k 32 with h | h
        · exact h
        · exfalso; obtain rfl : k = 32 := by omega
          exact hx (HX.out.trans (shl_32 a))
      go_wp2
      go_round
      case rel => exact ⟨k + 1, x * 2 % 4294967296, by omega, by go_num, rfl, by omega, by omega, (by show _ = _; rw [HX.out, shl_one]), none_next HL.out (fun e => hx (HX.out.trans e))⟩
      case measure => simp [intOf]; omega
end Go.Proofs.Ytfdpmlogieaiaaa

namespace Go.Proofs.Ytfdpmlogieaiaaa
open Go.RowKit
set_option linter.unusedVariables false
set_option maxRecDepth 100000

/-- A world in which nothing of w has turned. -/
structure Aft (w0 : World) where
  w : World
  gr : Touch (fun _ => False) w0 w

theorem wp_region_aft {P : Program} {id : Nat} {Q : Exit → Act → World → Prop} {a : Act} {w : World} {l : List Oper} (hm : P.follows .mixedOrders = true) (hB : Region.lexB .any l.toArray = true)
    (h : wpQuiet P l.toArray (fun w' => ∃ u : Aft w, w' = u.w) (fun a' => ∀ w', (∃ u : Aft w, w' = u.w) → Q .normal a' w') l a) : (Code.region id l.toArray true).wp P Q a w :=
  wp_region_quiet (C := fun w' => ∃ u : Aft w, w' = u.w) hm hB ⟨⟨_, (Touch.refl _ w).drew⟩, rfl⟩ (by simpa using h)
theorem Aft.call {P : Program} {f : FuncId} {args : Array Value} {w : World} {u : Aft w} {v : Value} (h : Calls P f args u.w fun e w' => e = .returned v ∧ Touch (fun _ => False) u.w w') :
    Calls P f args u.w fun e w'' => e = .returned v ∧ ∃ u' : Aft w, w'' = u'.w :=
  h.mono fun _ w'' ⟨he, hg⟩ => ⟨he, ⟨w'', u.gr.trans hg⟩, rfl⟩
theorem aft_cell {w : World} {p : Addr} {v : Value} (h : w.cell? p = some v) : ∀ u : Aft w, u.w.cell? p = some v :=
  fun u => u.gr.cellN h
end Go.Proofs.Ytfdpmlogieaiaaa

namespace Go.Proofs.Ytfdpmlogieaiaaa
open Go.RowKit
set_option linter.unusedVariables false
set_option maxRecDepth 100000

theorem take_u32 (g i : Nat) (x : Int) (w : World) (hc : w.cell? ⟨g, i, none⟩ = some (.int .u32 x)) (hf : w.frozen? ⟨g, i, none⟩ = false) :
    Calls Try.prog 77 #[.pointer (some ⟨g, i, none⟩)] w fun e w' => e = .returned (.int .u32 x) ∧ w.setCell ⟨g, i, none⟩ (.int .u32 0) = w' := by
  go_enter Try.func77, Try.ntmps77
  go_wp2
  go_ret
  exact ⟨rfl, rfl⟩
theorem take_u8 (g i : Nat) (x : Int) (w : World) (hc : w.cell? ⟨g, i, none⟩ = some (.int .u8 x)) (hf : w.frozen? ⟨g, i, none⟩ = false) :
    Calls Try.prog 85 #[.pointer (some ⟨g, i, none⟩)] w fun e w' => e = .returned (.int .u8 x) ∧ w.setCell ⟨g, i, none⟩ (.int .u8 0) = w' := by
  go_enter Try.func85, Try.ntmps85
  go_wp2
  go_ret
  exact ⟨rfl, rfl⟩
theorem take_bool (g i : Nat) (x : Bool) (w : World) (hc : w.cell? ⟨g, i, none⟩ = some (.bool x)) (hf : w.frozen? ⟨g, i, none⟩ = false) :
    Calls Try.prog 78 #[.pointer (some ⟨g, i, none⟩)] w fun e w' => e = .returned (.bool x) ∧ w.setCell ⟨g, i, none⟩ (.bool false) = w' := by
  go_enter Try.func78, Try.ntmps78
  go_wp2
  go_ret
  exact ⟨rfl, rfl⟩
theorem take_bytes (g i : Nat) (a : Option Addr) (n c : Nat) (w : World) (hc : w.cell? ⟨g, i, none⟩ = some (.slice a n c)) (hf : w.frozen? ⟨g, i, none⟩ = false) :
    Calls Try.prog 82 #[.pointer (some ⟨g, i, none⟩)] w fun e w' => e = .returned (.slice a n c) ∧ w.setCell ⟨g, i, none⟩ (.slice none 0 0) = w' := by
  go_enter Try.func82, Try.ntmps82
  go_wp2
  go_ret
  exact ⟨rfl, rfl⟩
theorem take_links (g i : Nat) (a : Option Addr) (n c : Nat) (w : World) (hc : w.cell? ⟨g, i, none⟩ = some (.slice a n c)) (hf : w.frozen? ⟨g, i, none⟩ = false) :
    Calls Try.prog 84 #[.pointer (some ⟨g, i, none⟩)] w fun e w' => e = .returned (.slice a n c) ∧ w.setCell ⟨g, i, none⟩ (.slice none 0 0) = w' := by
  go_enter Try.func84, Try.ntmps84
  go_wp2
  go_ret
  exact ⟨rfl, rfl⟩
theorem take_words (g i : Nat) (a : Option Addr) (n c : Nat) (w : World) (hc : w.cell? ⟨g, i, none⟩ = some (.slice a n c)) (hf : w.frozen? ⟨g, i, none⟩ = false) :
    Calls Try.prog 89 #[.pointer (some ⟨g, i, none⟩)] w fun e w' => e = .returned (.slice a n c) ∧ w.setCell ⟨g, i, none⟩ (.slice none 0 0) = w' := by
  go_enter Try.func89, Try.ntmps89
  go_wp2
  go_ret
  exact ⟨rfl, rfl⟩

theorem isMask_any (a : Int) (w : World) (h0 : 0 ≤ a) (h1 : a < 4294967296) : Calls Try.prog 92 #[.int .u32 a] w fun e w' => e = .returned (.bool (pbok a)) ∧ w = w' := by
  go_enter Try.func92, Try.ntmps92
  go_wp2_with (go_at_call 94; refine (bits_any a _ h0 h1).mono ?_; rintro e w' ⟨rfl, rfl⟩)
  go_ret
  exact ⟨rfl, rfl⟩
theorem isLink_any (x : LV) (w : World) : Calls Try.prog 93 #[.agg #[.int .u32 x.id, .int .u32 x.data, .int .u8 x.typ, .int .u16 x.cost]] w fun e w' => e = .returned (.bool (decide (1 ≤ x.typ) && decide (x.typ ≤ 4))) ∧ Touch (fun _ => False) w w' := by
  by_cases h1 : 1 ≤ x.typ
  · have h1' : decide (1 ≤ x.typ) = true := by simpa using h1
    go_enter Try.func93, Try.ntmps93
    go_wp2
    go_ret
    exact ⟨ret_bool (by simp_all), (Touch.refl _ w).alloc _⟩
  · have h1' : decide (1 ≤ x.typ) = false := by simpa using h1
    go_enter Try.func93, Try.ntmps93
    go_wp2
    go_ret
    exact ⟨ret_bool (by simp_all), (Touch.refl _ w).alloc _⟩

theorem size_any (h : HV) (a : Option Addr) (n c : Nat) (w : World) (hn : n ≤ 140737488355328) : Calls Try.prog 40 #[h.sv (.slice a n c)] w fun e w' => e = .returned (.int .i64 (20 + (n : Int))) ∧ Touch (fun _ => False) w w' := by
  have hw : wrap64 (20 + (n : Int)) = 20 + (n : Int) := by unfold wrap64; omega
  unfold HV.sv
  go_enter Try.func40, Try.ntmps40
  go_wp2
  go_ret
  exact ⟨rfl, (Touch.refl _ w).alloc _⟩
theorem hasLength_any (h : HV) (a : Option Addr) (n c : Nat) (w : World) (hn : n ≤ 140737488355328) (hl : 0 ≤ h.len ∧ h.len < 65536) : Calls Try.prog 27 #[h.sv (.slice a n c)] w fun e w' => e = .returned (.bool (h.len == 20 + (n : Int))) ∧ Touch (fun _ => False) w w' := by
  obtain ⟨hl0, hl1⟩ := hl
  have HC : ∀ w, Calls Try.prog 40 #[.agg #[.int .u16 h.age, .int .u8 h.opts, .int .u8 h.typ, .int .u32 h.id, .int .u32 h.adv, .int .i32 h.seq, .int .u16 h.sum, .int .u16 h.len, .slice a n c]] w fun e w' => e = .returned (.int .i64 (20 + (n : Int))) ∧ Touch (fun _ => False) w w' := fun w => size_any h a n c w hn
  show Calls Try.prog 27 #[.agg #[.int .u16 h.age, .int .u8 h.opts, .int .u8 h.typ, .int .u32 h.id, .int .u32 h.adv, .int .i32 h.seq, .int .u16 h.sum, .int .u16 h.len, .slice a n c]] w _
  have HB := Sd.new w h (.slice a n c) 34
  have p0 := aft_cell HB.hd.c0
  have p1 := aft_cell HB.hd.c1
  have p2 := aft_cell HB.hd.c2
  have p3 := aft_cell HB.hd.c3
  have p4 := aft_cell HB.hd.c4
  have p5 := aft_cell HB.hd.c5
  have p6 := aft_cell HB.hd.c6
  have p7 := aft_cell HB.hd.c7
  have p8 := aft_cell HB.c8
  clear HB
  go_enter Try.func27, Try.ntmps27
  go_upto_region 1 with fail
  refine wp_region_aft (by kernel_rfl) (by kernel_rfl) ?_
  repeat (first | go_big_quiet_skip | (go_big_quiet_want; go_big_quiet_op; first | go_big_quiet_on | (refine Exists.intro _ ⟨fun _ => rfl, ?_⟩; go_big_quiet_on)))
  go_big_quiet_want; go_big_quiet_op; refine Exists.intro _ ⟨fun u => Aft.call (HC _), ?_⟩; go_big_quiet_on
  repeat (first | go_big_quiet_skip | (go_big_quiet_want; go_big_quiet_op; first | go_big_quiet_on | (refine Exists.intro _ ⟨fun _ => rfl, ?_⟩; go_big_quiet_on)))
  refine wpQuiet_nil ?_
  rintro wq ⟨⟨_, hgq⟩, rfl⟩
  clear p0 p1 p2 p3 p4 p5 p6 p7 p8
  go_wp2
  go_ret
  exact ⟨rfl, ((Touch.refl _ w).alloc _).trans hgq⟩

theorem bare_any (x0 x2 x4 x6 x7 : Int) (x5 : Bool) (a1 a3 a8 : Option Addr) (n1 q1 n3 q3 n8 q8 : Nat) (w : World) (h1 : n1 ≤ 140737488355328) (h3 : n3 ≤ 140737488355328) (h8 : n8 ≤ 140737488355328) :
    Calls Try.prog 46 #[.agg #[.int .u8 x0, .slice a1 n1 q1, .int .u32 x2, .slice a3 n3 q3, .int .u32 x4, .bool x5, .int .u32 x6, .int .u32 x7, .slice a8 n8 q8]] w fun e w' =>
      e = .returned (.bool (((n1 : Int) + n3 + n8 == 0) && (x0 == 0) && (x2 == 0) && (x4 == 0) && (!x5) && (x6 == 0) && (x7 == 0))) ∧ Touch (fun _ => False) w w' := by
  have e1 : wrap64 ((n1 : Int) + n3) = (n1 : Int) + n3 := by unfold wrap64; omega
  have e2 : wrap64 ((n1 : Int) + n3 + n8) = (n1 : Int) + n3 + n8 := by unfold wrap64; omega
  go_enter Try.func46, Try.ntmps46
  go_wp2
  all_goals go_ret
  all_goals exact ⟨ret_bool (by simp_all), (Touch.refl _ w).alloc _⟩
end Go.Proofs.Ytfdpmlogieaiaaa

namespace Go.Proofs.Ytfdpmlogieaiaaa
open Go.RowKit
set_option linter.unusedVariables false
set_option maxRecDepth 100000

theorem run_append_keep {P : Program} (w : World) (base : Nat) (t ty e : TypeId) (i : TypeInfo) (z : Value) (size bytes : Nat) (ht : P.underlying t = some (.slice e)) (hi : P.info? e = some i) (hz : i.zero = some z)
    (hsize : i.size = size) (hby : i.bytes = bytes) (hzs : z.cells.size = size) (hsz : 0 < size)
    (v : Value) (n : Nat) (xs : List Value) (hown : w.ownsRow base e size v n xs)
    (a : Addr) (m c : Nat) (news : List Value) (hl : news.length = m * size) (hnews : ∀ j u, news[j]? = some u → w.cell? (a.add j) = some u) (h1 : ∀ u ∈ news, u.oneCell' = true)
    (h63 : n + m ≤ maxLen) (hbytes : (n + m) * bytes ≤ 140737488355328) (hbase : base ≤ w.heap.size) :
    ∃ v' w', (Builtin.append_ #[t, t] ty #[v, .slice (some a) m c]).run P w = .ok v' w' ∧ w'.ownsRow base e size v' (n + m) (xs ++ news) ∧ w'.ownsRow base e size v n xs ∧ w.grownBy w' v.ownBlock ∧
      (v'.ownBlock = v.ownBlock ∨ v'.ownBlock = some w.heap.size) := by
  obtain ⟨v', w', hr, h2, h3, h4, h5⟩ := run_append_own_at (P := P) w base t ty e i z size bytes ht hi hz hsize hby hzs hsz v n xs hown a m c news hl hnews h1 h63 hbytes hbase
  refine ⟨v', w', hr, h2, ?_, h3, h5⟩
  subst hsize
  subst hby
  rcases hown.2 with ⟨rfl, rfl⟩ | ⟨g, cap, cur, rfl, hbg, hg, hnc, hcm, hcs, htake⟩
  · have hx : xs = [] := List.eq_nil_of_length_eq_zero (by simpa using hown.1)
    subst hx
    exact World.ownsRow_nil _ _ _ _
  · by_cases hroom : n + m ≤ cap
    · have hfit : n * i.size + news.length ≤ cur.size := by rw [hl, hcs, ← Nat.add_mul]; exact Nat.mul_le_mul_right _ hroom
      have hr' := run_append_room (P := P) w t ty e i ht hi g n cap cur hg a m c news hl hnews h1 hroom hfit
      rw [hr'] at hr
      obtain ⟨-, rfl⟩ : _ ∧ _ = w' := by simpa using hr
      refine ⟨hown.1, .inr ⟨g, cap, _, rfl, hbg, setRow_heap w g cur _ e _ hg, hnc, hcm, ?_, ?_⟩⟩
      · simp only [List.size_toArray, List.length_append, List.length_take, List.length_drop, Array.length_toList]
        omega
      · rw [htake, ← hown.1]
        exact List.take_left
    · have holds : ∀ j u, xs[j]? = some u → w.cell? ((⟨g, 0, none⟩ : Addr).add j) = some u := hown.cells (g := g) rfl
      have hr' := run_append_grow (P := P) w t ty e i z ht hi hz ⟨g, 0, none⟩ n cap xs hown.1 holds a m c news hl hnews (by omega) (by simp only [maxLen] at h63; omega) (growslice_fits (by omega) hbytes)
      rw [hr'] at hr
      obtain ⟨-, rfl⟩ : _ ∧ _ = w' := by simpa using hr
      exact World.ownsRow.alloc (w := w.drew) hown _

theorem wpList_append_keep {P : Program} (w : World) {ops : Array Oper} {rest : List Oper} {o : Oper} {a : Act} {Q : Exit → Act → World → Prop} (hgd : o.guard = none) (s x : Operand) (t : TypeId)
    (ho : o.op = .call { callee := .builtin .append, args := #[s, x], argTypes := #[t, t] })
    (base : Nat) (e : TypeId) (i : TypeInfo) (z : Value) (size bytes : Nat) (ht : P.underlying t = some (.slice e)) (hi : P.info? e = some i) (hz : i.zero = some z)
    (hsize : i.size = size) (hby : i.bytes = bytes) (hzs : z.cells.size = size) (hsz : 0 < size)
    (v : Value) (n : Nat) (xs : List Value) (hs : a.eval s = v) (hown : w.ownsRow base e size v n xs)
    (ad : Addr) (m c : Nat) (news : List Value) (hx : a.eval x = .slice (some ad) m c) (hl : news.length = m * size) (hnews : ∀ j u, news[j]? = some u → w.cell? (ad.add j) = some u) (h1 : ∀ u ∈ news, u.oneCell' = true)
    (h63 : n + m ≤ maxLen) (hbytes : (n + m) * bytes ≤ 140737488355328) (hbase : base ≤ w.heap.size)
    (h : ∀ v' w', w'.ownsRow base e size v' (n + m) (xs ++ news) → w'.ownsRow base e size v n xs → w.grownBy w' v.ownBlock → (v'.ownBlock = v.ownBlock ∨ v'.ownBlock = some w.heap.size) → wpList P ops Q rest (a.put o.dst v') w') :
    wpList P ops Q (o :: rest) a w := by
  refine wpList_plain hgd fun K hK => ?_
  obtain ⟨v', w', hr, h2, h3, h4, h5⟩ := run_append_keep (P := P) w base t o.type e i z size bytes ht hi hz hsize hby hzs hsz v n xs hown ad m c news hl hnews h1 h63 hbytes hbase
  unfold Oper.wp execOp
  simp only [ho, resolve, invoke, builtin, Sem.run_bind, Sem.run_pure, Result.andThen_ok, List.map_toArray, List.map_cons, List.map_nil, hs, hx, hr]
  exact hK _ _ (h v' w' h2 h3 h4 h5)

/-- What a value that owns a row looks like. -/
theorem own_form {w : World} {base : Nat} {e : TypeId} {size : Nat} {v : Value} {n : Nat} {xs : List Value} (h : w.ownsRow base e size v n xs) : ∃ a c, v = .slice a n c := by
  rcases h.2 with ⟨rfl, rfl⟩ | ⟨g, cap, cur, rfl, _⟩
  · exact ⟨_, _, rfl⟩
  · exact ⟨_, _, rfl⟩
theorem own_base {w : World} {base base' : Nat} {e : TypeId} {size : Nat} {v : Value} {n : Nat} {xs : List Value} (h : w.ownsRow base e size v n xs) (hb : ∀ k, v.ownBlock = some k → base' ≤ k) : w.ownsRow base' e size v n xs := by
  obtain ⟨h1, h2⟩ := h
  refine ⟨h1, ?_⟩
  rcases h2 with h2 | ⟨g, cap, cur, rfl, hg, hh⟩
  · exact Or.inl h2
  · exact Or.inr ⟨g, cap, cur, rfl, hb g rfl, hh⟩
end Go.Proofs.Ytfdpmlogieaiaaa
