
/- No nameless router; rows that are made. -/
import Derived.Test.YtdfacfpjhnohcaaTrTake
namespace Go.Proofs.Ytdfacfpjhnohcaa
open Go.RowKit
set_option linter.unusedVariables false
set_option maxRecDepth 100000

theorem made_tab {α : Type} {cs : α → List Value} {k : Nat} (hk : ∀ x, (cs x).length = k) (h0 : 0 < k) (x : α) (n : Nat) : (madeCells (cs x).toArray (n * k)).toList = cellsG cs (tab n (fun _ => x)) := by
  apply List.ext_getElem?
  intro j
  have hs : (cs x).toArray.size = k := by simp [hk]
  have hj : j = j / k * k + j % k := by rw [Nat.mul_comm]; exact (Nat.div_add_mod j k).symm
  have hm : j % k < k := Nat.mod_lt _ h0
  by_cases hn : j < n * k
  · have hq : j / k < n := Nat.div_lt_of_lt_mul (by rw [Nat.mul_comm]; exact hn)
    have h1 := cellsG_get hk (tab n (fun _ => x)) (j / k) (j % k) hm
    rw [← hj, tab_get _ hq] at h1
    rw [h1]
    simp only [madeCells, hs, Array.toList_map, List.getElem?_map, Array.getElem?_toList, Array.getElem?_range, hn, if_true, Option.map_some, Option.bind_some]
    have hl : j % k < (cs x).length := by rw [hk]; exact hm
    rw [List.getElem?_eq_getElem hl, getElem!_pos (cs x).toArray (j % k) (by simpa using hl)]
    simp
  · rw [List.getElem?_eq_none (by simp [madeCells]; omega), List.getElem?_eq_none (by rw [length_cellsG hk, tab_length]; omega)]

set_option maxHeartbeats 1000000 in
theorem nameless_any (x : NM) (h : x.t.net = false → x.t.id ≠ 0) (w : World) : Calls Try.prog 16 #[.agg #[.bool x.t.net, .int .u32 x.t.id, .int .u32 x.addr, .int .u8 x.bits, .int .u8 x.flags, .slice x.ea x.t.edges.length x.ec, .slice x.sa x.sn x.sc]] w fun e w' => e = .returned (.bool false) ∧ Touch (fun _ => False) w w' := by
  obtain ⟨⟨net, id, es⟩, a, b, f, ea, ec, sa, sn, sc⟩ := x
  simp only at h ⊢
  generalize es.length = en
  cases net
  · have hid : ¬ id = 0 := h rfl
    have hib : (id == 0) = false := by simpa using hid
    clear h
    go_enter Try.func16, Try.ntmps16
    go_wp2_with fail
    go_ret
    exact ⟨rfl, (Touch.refl _ _).alloc _⟩
  · clear h
    go_enter Try.func16, Try.ntmps16
    go_wp2_with fail
    go_ret
    exact ⟨rfl, (Touch.refl _ _).alloc _⟩

set_option maxHeartbeats 2000000 in
theorem index17 (w : World) (nv : Value) (ns : List NM) (GA : GrAt w nv ns) (hn : ns.length ≤ 1000000) (h : ∀ x ∈ ns, x.t.net = false → x.t.id ≠ 0) :
    Calls Try.prog 26 #[nv, .func (.func 16) #[] #[]] w fun e w' => e = .returned (.int .i64 (-1)) ∧ Touch (fun _ => False) w w' := by
  obtain ⟨⟨a, cp, rfl, hsh⟩, -⟩ := GA
  have HSH : Hid _ := hsh
  have HH : Hid _ := h
  have hn1 : (ns.length : Int) ≤ 1000000 := by omega
  generalize hN : ns.length = N at *
  have HN : Hid _ := hN
  clear hsh h hN
  go_enter Try.func26, Try.ntmps26
  go_wp2_with fail
  go_loopw [8] (fun s8 wx => ∃ j : Nat, s8 = .int .i64 j ∧ j ≤ N ∧ Touch (fun _ => False) w wx) (fun s8 _ => N - (intOf s8).toNat)
  case atStart => exact ⟨0, rfl, Nat.zero_le _, Touch.refl _ _⟩
  case round =>
    obtain ⟨j, rfl, hj, T⟩ := hrel
    by_cases hjN : j < N
    · obtain ⟨x, hx⟩ : ∃ x, ns[j]? = some x := ⟨_, List.getElem?_eq_getElem (by have := HN.out; omega)⟩
      rcases HSH.out with e | ⟨g, rfl, hc⟩
      · rw [e] at hx; cases hx
      have hq := fun d u hd => T.cellN (hc j x hx d u hd)
      have q0 : wr.cell? ⟨g, j * 7, none⟩ = some (.bool x.t.net) := hq 0 _ rfl
      have q1 : wr.cell? ⟨g, j * 7 + 1, none⟩ = some (.int .u32 x.t.id) := hq 1 _ rfl
      have q2 : wr.cell? ⟨g, j * 7 + 2, none⟩ = some (.int .u32 x.addr) := hq 2 _ rfl
      have q3 : wr.cell? ⟨g, j * 7 + 3, none⟩ = some (.int .u8 x.bits) := hq 3 _ rfl
      have q4 : wr.cell? ⟨g, j * 7 + 4, none⟩ = some (.int .u8 x.flags) := hq 4 _ rfl
      have q5 : wr.cell? ⟨g, j * 7 + 5, none⟩ = some (.slice x.ea x.t.edges.length x.ec) := hq 5 _ rfl
      have q6 : wr.cell? ⟨g, j * 7 + 6, none⟩ = some (.slice x.sa x.sn x.sc) := hq 6 _ rfl
      have HNM : Hid _ := nameless_any x (HH.out x (List.mem_of_getElem? hx))
      have HT : Hid (Touch (fun _ => False) w wr) := T
      have hj0 : (0 : Int) ≤ (j : Int) := by omega
      have hj1 : (j : Int) < (N : Int) := by omega
      clear hq hx hc T
      go_wp2_with ((go_at_call 16; refine Calls.mono (HNM.out _) ?_; rintro en w5 ⟨rfl, t5⟩))
      go_roundw
      case rel => exact ⟨j + 1, by go_num, by omega, HT.out.trans t5⟩
      case measure => simp [intOf]; omega
    · have hjj : j = N := by omega
      subst hjj
      go_wp2_with fail
      go_ret
      exact ⟨rfl, T⟩
set_option maxHeartbeats 400000 in
theorem contains17 (w : World) (nv : Value) (ns : List NM) (GA : GrAt w nv ns) (hn : ns.length ≤ 1000000) (h : ∀ x ∈ ns, x.t.net = false → x.t.id ≠ 0) :
    Calls Try.prog 15 #[nv, .func (.func 16) #[] #[]] w fun e w' => e = .returned (.bool false) ∧ Touch (fun _ => False) w w' := by
  have HI : Hid _ := index17 w nv ns GA hn h
  clear GA
  go_enter Try.func15, Try.ntmps15
  go_wp2_with fail
  refine Calls.mono HI.out ?_
  rintro en w5 ⟨rfl, t5⟩
  go_wp2_with fail
  go_ret
  exact ⟨rfl, t5⟩
end Go.Proofs.Ytdfacfpjhnohcaa
