/- Bits of small numbers: the lower sixteen, the lower eight, two bytes put together. -/
import Derived.Test.YtfdpmlogieaiaaaGreatDoorSumMath
import Derived.Laws.BitsAllLaws
import Derived.Test.YtfdpmlogieaiaaaGreatDoorWideB
import Derived.Deep.LoopGhost
import Derived.Deep.RegionWith
import Derived.Deep.DeepCutAuto
namespace Go.Proofs.YtfdpmlogieaiaaaGreatDoor
open Go.RowKit
set_option linter.unusedVariables false

theorem and16 {n : Int} (h0 : 0 ≤ n) (h : n < 4294967296) : bits .and .u32 n 65535 = n % 65536 := by
  rw [u32_and n _ h0 h (by omega) (by omega), show (65535 : Int).toNat = 2 ^ 16 - 1 from rfl, Nat.and_two_pow_sub_one_eq_mod]
  omega
theorem and8 {n : Int} (h0 : 0 ≤ n) (h : n < 4294967296) : bits .and .u32 n 255 = n % 256 := by
  rw [u32_and n _ h0 h (by omega) (by omega), show (255 : Int).toNat = 2 ^ 8 - 1 from rfl, Nat.and_two_pow_sub_one_eq_mod]
  omega
theorem and8s {n : Int} (h0 : 0 ≤ n) (h : n < 65536) : bits .and .u16 n 255 = n % 256 := by
  rw [u16_and n _ h0 h (by omega) (by omega), show (255 : Int).toNat = 2 ^ 8 - 1 from rfl, Nat.and_two_pow_sub_one_eq_mod]
  omega
theorem or8 {x y : Int} (hx0 : 0 ≤ x) (hx : x < 65536) (hy0 : 0 ≤ y) (hy : y < 256) : bits .or .u32 (x * 256) y = x * 256 + y := by
  rw [u32_or _ _ (by omega) (by omega) hy0 (by omega)]
  obtain ⟨X, rfl⟩ : ∃ X : Nat, x = X := ⟨x.toNat, by omega⟩
  obtain ⟨Y, rfl⟩ : ∃ Y : Nat, y = Y := ⟨y.toNat, by omega⟩
  have e : ((X : Int) * 256).toNat = X <<< 8 := by rw [Nat.shiftLeft_eq]; omega
  rw [e, Int.toNat_natCast, ← Nat.shiftLeft_add_eq_or_of_lt (by omega : Y < 2 ^ 8), Nat.shiftLeft_eq]
  omega
end Go.Proofs.YtfdpmlogieaiaaaGreatDoor

namespace Go.Proofs.YtfdpmlogieaiaaaGreatDoor
open Go.RowKit
set_option linter.unusedVariables false
set_option maxRecDepth 100000

/-- Two numbers of 32 bits lie in block b. -/
structure Two (w : World) (b : Nat) (x y : Int) : Prop where
  c0 : w.cell? ⟨b, 0, none⟩ = some (.int .u32 x)
  c1 : w.cell? ⟨b, 1, none⟩ = some (.int .u32 y)
  f0 : w.frozen? ⟨b, 0, none⟩ = false
  f1 : w.frozen? ⟨b, 1, none⟩ = false
theorem Two.lt {w : World} {b : Nat} {x y : Int} (h : Two w b x y) : b < w.heap.size := lt_of_cell h.c0
theorem Two.keep {w w' : World} {b : Nat} {x y : Int} (h : Two w b x y) (t : Touch (fun _ => False) w w') : Two w' b x y :=
  ⟨t.cellN h.c0, t.cellN h.c1, (t.frozen h.lt (fun h => h)).trans h.f0, (t.frozen h.lt (fun h => h)).trans h.f1⟩
theorem Two.drew {w : World} {b : Nat} {x y : Int} (h : Two w b x y) : Two w.drew b x y := h.keep ((Touch.refl _ _).drew)
theorem Two.set0 {w : World} {b : Nat} {x y : Int} (h : Two w b x y) (z : Int) : Two (w.setCell ⟨b, 0, none⟩ (.int .u32 z)) b z y := by
  obtain ⟨h0, h1, h2, h3⟩ := h
  exact ⟨by simp [h0, go_sem], by simp [h1, go_sem], by simp [h2, go_sem], by simp [h3, go_sem]⟩
theorem Two.set1 {w : World} {b : Nat} {x y : Int} (h : Two w b x y) (z : Int) : Two (w.setCell ⟨b, 1, none⟩ (.int .u32 z)) b x z := by
  obtain ⟨h0, h1, h2, h3⟩ := h
  exact ⟨by simp [h0, go_sem], by simp [h1, go_sem], by simp [h2, go_sem], by simp [h3, go_sem]⟩
theorem Touch.new {w0 w : World} (t : Touch (fun _ => False) w0 w) {p : Addr} (h : w0.heap.size ≤ p.block) (u : Value) : Touch (fun _ => False) w0 (w.setCell p u) := t.setCell (Or.inr h) u

theorem rowAt_cap {w : World} {g off c : Nat} {rs : List Int} (h : RowAt w (.slice (some ⟨g, off, none⟩) rs.length c) rs) : rs.length ≤ c := by
  rcases h with ⟨h, _⟩ | ⟨g', off', c', h, h1, _⟩
  · cases h
  · cases h; exact h1
theorem rowAt_drop {w : World} {g off c : Nat} {rs : List Int} (h : RowAt w (.slice (some ⟨g, off, none⟩) rs.length c) rs) (n : Nat) (hn : n ≤ rs.length) : RowAt w (.slice (some ⟨g, off + n, none⟩) (rs.length - n) (c - n)) (rs.drop n) := by
  rcases h with ⟨h, _⟩ | ⟨g', off', c', h, h1, h2, h3⟩
  · cases h
  · cases h
    refine Or.inr ⟨g, off + n, c - n, by simp, by simp; omega, by omega, fun j u hj => ?_⟩
    rw [Nat.add_assoc]
    refine h3 (n + j) u ?_
    simpa [bytesOf, List.getElem?_drop] using hj
theorem rowAt_take {w : World} {g off c : Nat} {rs : List Int} (h : RowAt w (.slice (some ⟨g, off, none⟩) rs.length c) rs) (n : Nat) (hn : n ≤ rs.length) : RowAt w (.slice (some ⟨g, off, none⟩) n c) (rs.take n) := by
  rcases h with ⟨h, _⟩ | ⟨g', off', c', h, h1, h2, h3⟩
  · cases h
  · cases h
    refine Or.inr ⟨g, off, c, by simp; omega, by simp; omega, by omega, fun j u hj => ?_⟩
    refine h3 j u ?_
    simp only [bytesOf, List.getElem?_map, List.getElem?_take] at hj ⊢
    split at hj
    · exact hj
    · simp at hj
end Go.Proofs.YtfdpmlogieaiaaaGreatDoor

namespace Go.Proofs.YtfdpmlogieaiaaaGreatDoor
open Go.RowKit
set_option linter.unusedVariables false
set_option maxRecDepth 100000

theorem upper_any (v : Int) (w : World) (h0 : 0 ≤ v) (h1 : v < 1000000) :
    Calls Tryz.prog 121 #[.int .u32 v] w fun e w' => e = .returned (.int .u32 ((v + 254) % 255 + 1)) ∧ w = w' := by
  go_enter Tryz.func121, Tryz.ntmps121
  go_wp2
  go_ret
  rw [show v + 254 = v + 255 - 1 by omega]
  exact ⟨rfl, rfl⟩

def modv (a b i : Int) : Int := (if i = 0 then a else b) % 255
theorem mod_x (a b i : Int) (w : World) (hi : i = 0 ∨ i = 1) (h0 : 0 ≤ a) (h1 : a < 4294967296) (k0 : 0 ≤ b) (k1 : b < 4294967296) :
    Calls Tryz.prog 138 #[.agg #[.int .u32 a, .int .u32 b], .int .i64 i] w fun e w' => e = .returned (.int .u32 (modv a b i)) ∧ w' = w.alloc (.cells #[.int .u32 a, .int .u32 b] 196) := by
  rcases hi with rfl | rfl
  all_goals
    go_enter Tryz.func138, Tryz.ntmps138
    go_wp2
    go_ret
    exact ⟨rfl, rfl⟩

def SOut (w0 : World) (b : Nat) (l rs : List Int) (g : Nat) (s : Value) (wr : World) : Prop :=
  ∃ (pre rest : List Int) (h k : Int), rest.length ≤ g ∧ pre ++ rest = rs ∧ ArgAt w0 s rest ∧ Two wr b h k ∧ Run (l ++ pre) h k ∧ 0 ≤ h ∧ 0 ≤ k ∧ h < 4294967296 ∧ k < 4294967296 ∧ Touch (fun _ => False) w0 wr

def SIn (w0 : World) (b : Nat) (l pre rest : List Int) (g : Nat) (i : Value) (wr : World) : Prop :=
  ∃ (j : Nat) (h k : Int), j + g = rest.length ∧ j ≤ 4096 ∧ i = .int .i64 (j : Int) ∧ Two wr b h k ∧ Run ((l ++ pre) ++ rest.take j) h k ∧ 0 ≤ h ∧ 0 ≤ k ∧ h ≤ 254 + 255 * (j : Int) ∧ k ≤ 254 + 1044734 * (j : Int) ∧ Touch (fun _ => False) w0 wr

set_option maxHeartbeats 4000000 in
theorem sadd_any (w0 : World) (b : Nat) (v : Value) (l rs : List Int) (h k : Int) (w : World) (hv : ArgAt w0 v rs) (hby : ∀ x ∈ rs, 0 ≤ x ∧ x < 256) (hc : Two w b h k) (hr : Run l h k) (h0 : 0 ≤ h) (k0 : 0 ≤ k) (h1 : h < 4294967296) (k1 : k < 4294967296)
    (hb0 : w0.heap.size ≤ b) (t : Touch (fun _ => False) w0 w) :
    Calls Tryz.prog 137 #[.pointer (some ⟨b, 0, none⟩), v] w fun e w' => e = .returned (.tuple #[]) ∧ (∃ h k, Two w' b h k ∧ Run (l ++ rs) h k ∧ 0 ≤ h ∧ 0 ≤ k ∧ h < 4294967296 ∧ k < 4294967296) ∧ Touch (fun _ => False) w0 w' := by
  have HBy : Hid (∀ x ∈ rs, 0 ≤ x ∧ x < 256) := hby
  have hW : SOut w0 b l rs rs.length v w := ⟨[], rs, h, k, Nat.le_refl _, rfl, hv, hc, by simpa using hr, h0, k0, h1, k1, t⟩
  clear hv hby hc hr h0 k0 h1 k1 t
  go_enter Tryz.func137, Tryz.ntmps137
  go_wp2
  go_step3
  go_wp2
  go_step3
  go_wp2
  go_loopg [1] rs.length (fun g s wx => SOut w0 b l rs g s wx)
  case atStart => exact hW
  case round =>
    obtain ⟨pre, rest, h, k, hg, hrs, hs, hc, hr, h0, k0, h1, k1, t⟩ := hrel
    have HR : Hid (pre ++ rest = rs) := hrs
    have HRU : Hid (Run (l ++ pre) h k) := hr
    have HC : Hid (Two wr b h k) := hc
    have HT : Hid (Touch (fun _ => False) w0 wr) := t
    obtain ⟨c0, c1, f0, f1⟩ := hc
    have hbl := lt_of_cell c0
    obtain ⟨sa, sc, rfl, hm⟩ := hs.form
    unfold maxLen at hm
    have HS : Hid (ArgAt w0 (.slice sa rest.length sc) rest) := hs
    have hm0 : modv h k 0 = h % 255 := rfl
    have hm1 : modv h k 1 = k % 255 := rfl
    clear hW hrs hr t hs
    go_wp2_with fail
    go_region_with (go_at_call 138; refine (mod_x h k _ _ (by decide) h0 h1 k0 k1).mono ?_; rintro e w2 ⟨rfl, rfl⟩)
    all_goals
      have hc1 : Two (((((wr.setCell ⟨b, 0, none⟩ (.int .u32 (h % 255))).setCell ⟨b, 1, none⟩ (.int .u32 (k % 255))).alloc (.cells #[.int .u32 h, .int .u32 k] 196)).alloc (.cells #[.int .u32 h, .int .u32 k] 196)).drew) b (h % 255) (k % 255) := ((HC.out.set0 _).set1 _).keep ((((Touch.refl _ _).alloc _).alloc _).drew)
      have t1 : Touch (fun _ => False) w0 (((((wr.setCell ⟨b, 0, none⟩ (.int .u32 (h % 255))).setCell ⟨b, 1, none⟩ (.int .u32 (k % 255))).alloc (.cells #[.int .u32 h, .int .u32 k] 196)).alloc (.cells #[.int .u32 h, .int .u32 k] 196)).drew) := ((((HT.out.new (p := ⟨b, 0, none⟩) hb0 _).new (p := ⟨b, 1, none⟩) hb0 _).alloc _).alloc _).drew
      revert hc1 t1
      generalize ((((wr.setCell ⟨b, 0, none⟩ (.int .u32 (h % 255))).setCell ⟨b, 1, none⟩ (.int .u32 (k % 255))).alloc (.cells #[.int .u32 h, .int .u32 k] 196)).alloc (.cells #[.int .u32 h, .int .u32 k] 196)).drew = wc
      intro hc1 t1
      have hI : SIn w0 b l pre rest rest.length (.int .i64 ((0 : Nat) : Int)) wc := ⟨0, _, _, by omega, by omega, rfl, hc1, by simpa using HRU.out.mod, by omega, by omega, by omega, by omega, t1⟩
      clear hc1 t1 HC HT hm0 hm1 c0 c1 f0 f1 hbl
      go_wp2_with fail
      go_loopg [1, 22] rest.length (fun g s i wx => s = .slice sa rest.length sc ∧ SIn w0 b l pre rest g i wx)
      case atStart => exact ⟨rfl, hI⟩
      case round =>
        obtain ⟨rfl, j, h, k, hj, hj1, rfl, hc, hr, h0, k0, hh, hk, t⟩ := hrel
        have HT : Hid (Touch (fun _ => False) w0 wr) := t
        have HC : Hid (Two wr b h k) := hc
        obtain ⟨c0, c1, f0, f1⟩ := hc
        have HW : Hid (Run ((l ++ pre) ++ rest.take j) h k) := hr
        clear hI hr t
        by_cases hlt : j < rest.length
        · have hs := HS.out.row (by omega)
          obtain ⟨ga, oa, rfl⟩ := rowAt_some hs (by omega)
          have hcx := HT.out.cellN (rowAt_cell hs j hlt)
          have HZ : Hid (rest.take (j + 1) = rest.take j ++ [rest.getD j 0]) := by
            show _ = _
            rw [List.take_add_one, List.getElem?_eq_getElem hlt]
            simp [List.getD, hlt]
          have hz : 0 ≤ rest.getD j 0 ∧ rest.getD j 0 < 256 := HBy.out _ (by rw [← HR.out]; exact List.mem_append_right _ (by simp [List.getD, hlt]))
          revert hcx HZ hz
          generalize rest.getD j 0 = z
          intro hcx HZ hz
          obtain ⟨hz0, hz1⟩ := hz
          by_cases hq : j = 4096
          · subst hq
            have hcap := rowAt_cap hs
            have HN : Hid (SOut w0 b l rs (rest.length - 4096) (.slice (some ⟨ga, oa + 4096, none⟩) (rest.length - 4096) (sc - 4096)) wr) :=
              ⟨pre ++ rest.take 4096, rest.drop 4096, h, k, by simp, by rw [List.append_assoc, List.take_append_drop]; exact HR.out, (rowAt_drop hs 4096 (by omega)).arg, HC.out, by rw [← List.append_assoc]; exact HW.out, h0, k0, by omega, by omega, HT.out⟩
            have hlt' : (4096 : Int) < (rest.length : Int) := by omega
            have hcap' : (rest.length : Int) ≤ (sc : Int) := by omega
            clear hs
            go_wp2_with fail
            go_roundg (rest.length - 4096)
            case measure => omega
            case rel => exact HN.out
          · clear hs
            have hq' : ((j : Int) == 4096) = false := by simp; omega
            have HN : Hid (SIn w0 b l pre rest (rest.length - (j + 1)) (.int .i64 ((j : Int) + 1)) (((wr.setCell ⟨b, 0, none⟩ (.int .u32 (h + z))).setCell ⟨b, 1, none⟩ (.int .u32 (k + (h + z)))).drew.drew)) :=
              ⟨j + 1, h + z, k + (h + z), by omega, by omega, by rw [Int.natCast_add]; rfl, ((HC.out.set0 _).set1 _).drew.drew, by rw [HZ.out, ← List.append_assoc]; exact HW.out.snoc z, by omega, by omega, by omega, by omega, (((HT.out.new (p := ⟨b, 0, none⟩) hb0 _).new (p := ⟨b, 1, none⟩) hb0 _).drew).drew⟩
            clear hq
            go_wp2_with fail
            go_region
            go_wp2_with fail
            go_region
            go_wp2
            go_roundg (rest.length - (j + 1))
            case measure => omega
            case rel => exact ⟨rfl, HN.out⟩
        · obtain rfl : j = rest.length := by omega
          have HE : Hid (Run (l ++ rs) h k) := by
            have := HW.out
            rw [List.take_length, List.append_assoc, HR.out] at this
            exact this
          go_wp2_with fail
          rw [Exit.noGoto_ret]
          refine bodyPost_ret (results_none rfl _ _ _) rfl ?_
          exact ⟨rfl, ⟨h, k, HC.out, HE.out, h0, k0, by omega, by omega⟩, HT.out⟩
end Go.Proofs.YtfdpmlogieaiaaaGreatDoor
