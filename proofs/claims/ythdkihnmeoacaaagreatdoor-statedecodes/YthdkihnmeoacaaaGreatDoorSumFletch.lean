/- Bits of small numbers: the lower sixteen, the lower eight, two bytes put together. -/
import Derived.Test.YthdkihnmeoacaaaGreatDoorStaMath
import Derived.Laws.BitsAllLaws
import Derived.Test.YthdkihnmeoacaaaGreatDoorOwnB
import Derived.Deep.LoopGhost
import Derived.Deep.RegionWith
import Derived.Deep.DeepCutAuto
namespace Go.Proofs.YthdkihnmeoacaaaGreatDoor
open Go.RowKit
set_option linter.unusedVariables false

theorem and16 {n : Int} (h0 : 0 ≤ n) (h : n < 4294967296) : bits .and .u32 n 65535 = n % 65536 := by
  rw [u32_and n _ h0 h (by omega) (by omega), show (65535 : Int).toNat = 2 ^ 16 - 1 from rfl, Nat.and_two_pow_sub_one_eq_mod]
  omega
theorem and8 {n : Int} (h0 : 0 ≤ n) (h : n < 4294967296) : bits .and .u32 n 255 = n % 256 := by
  rw [u32_and n _ h0 h (by omega) (by omega), show (255 : Int).toNat = 2 ^ 8 - 1 from rfl, Nat.and_two_pow_sub_one_eq_mod]
  omega
theorem and8s {n : Int} (h0 : 0 ≤ n) (h : n < 65536) : bits .and .u16 n 255 = n % 256 := by
  rw [u16_and n _ h0 h (by omega) (by omega), show (255 : Int).toNat = 2 ^ 8 - 1 from rfl, Nat.and_two_pow_sub_one_eq_mod]
  omega
theorem or8 {x y : Int} (hx0 : 0 ≤ x) (hx : x < 65536) (hy0 : 0 ≤ y) (hy : y < 256) : bits .or .u32 (x * 256) y = x * 256 + y := by
  rw [u32_or _ _ (by omega) (by omega) hy0 (by omega)]
  obtain ⟨X, rfl⟩ : ∃ X : Nat, x = X := ⟨x.toNat, by omega⟩
  obtain ⟨Y, rfl⟩ : ∃ Y : Nat, y = Y := ⟨y.toNat, by omega⟩
  have e : ((X : Int) * 256).toNat = X <<< 8 := by rw [Nat.shiftLeft_eq]; omega
  rw [e, Int.toNat_natCast, ← Nat.shiftLeft_add_eq_or_of_lt (by omega : Y < 2 ^ 8), Nat.shiftLeft_eq]
  omega
end Go.Proofs.YthdkihnmeoacaaaGreatDoor

namespace Go.Proofs.YthdkihnmeoacaaaGreatDoor
open Go.RowKit
set_option linter.unusedVariables false
set_option maxRecDepth 100000

/-- Two numbers of 32 bits lie in block b. -/
structure Two (w : World) (b : Nat) (x y : Int) : Prop where
  c0 : w.cell? ⟨b, 0, none⟩ = some (.int .u32 x)
  c1 : w.cell? ⟨b, 1, none⟩ = some (.int .u32 y)
  f0 : w.frozen? ⟨b, 0, none⟩ = false
  f1 : w.frozen? ⟨b, 1, none⟩ = false
theorem Two.lt {w : World} {b : Nat} {x y : Int} (h : Two w b x y) : b < w.heap.size := lt_of_cell h.c0
theorem Two.keep {w w' : World} {b : Nat} {x y : Int} (h : Two w b x y) (t : Touch (fun _ => False) w w') : Two w' b x y :=
  ⟨t.cellN h.c0, t.cellN h.c1, (t.frozen h.lt (fun h => h)).trans h.f0, (t.frozen h.lt (fun h => h)).trans h.f1⟩
theorem Two.drew {w : World} {b : Nat} {x y : Int} (h : Two w b x y) : Two w.drew b x y := h.keep ((Touch.refl _ _).drew)
theorem Two.set0 {w : World} {b : Nat} {x y : Int} (h : Two w b x y) (z : Int) : Two (w.setCell ⟨b, 0, none⟩ (.int .u32 z)) b z y := by
  obtain ⟨h0, h1, h2, h3⟩ := h
  exact ⟨by simp [h0, go_sem], by simp [h1, go_sem], by simp [h2, go_sem], by simp [h3, go_sem]⟩
theorem Two.set1 {w : World} {b : Nat} {x y : Int} (h : Two w b x y) (z : Int) : Two (w.setCell ⟨b, 1, none⟩ (.int .u32 z)) b x z := by
  obtain ⟨h0, h1, h2, h3⟩ := h
  exact ⟨by simp [h0, go_sem], by simp [h1, go_sem], by simp [h2, go_sem], by simp [h3, go_sem]⟩
theorem Touch.new {w0 w : World} (t : Touch (fun _ => False) w0 w) {p : Addr} (h : w0.heap.size ≤ p.block) (u : Value) : Touch (fun _ => False) w0 (w.setCell p u) := t.setCell (Or.inr h) u

theorem rowAt_cap {w : World} {g off c : Nat} {rs : List Int} (h : RowAt w (.slice (some ⟨g, off, none⟩) rs.length c) rs) : rs.length ≤ c := by
  rcases h with ⟨h, _⟩ | ⟨g', off', c', h, h1, _⟩
  · cases h
  · cases h; exact h1
theorem rowAt_drop {w : World} {g off c : Nat} {rs : List Int} (h : RowAt w (.slice (some ⟨g, off, none⟩) rs.length c) rs) (n : Nat) (hn : n ≤ rs.length) : RowAt w (.slice (some ⟨g, off + n, none⟩) (rs.length - n) (c - n)) (rs.drop n) := by
  rcases h with ⟨h, _⟩ | ⟨g', off', c', h, h1, h2, h3⟩
  · cases h
  · cases h
    refine Or.inr ⟨g, off + n, c - n, by simp, by simp; omega, by omega, fun j u hj => ?_⟩
    rw [Nat.add_assoc]
    refine h3 (n + j) u ?_
    simpa [bytesOf, List.getElem?_drop] using hj
theorem rowAt_take {w : World} {g off c : Nat} {rs : List Int} (h : RowAt w (.slice (some ⟨g, off, none⟩) rs.length c) rs) (n : Nat) (hn : n ≤ rs.length) : RowAt w (.slice (some ⟨g, off, none⟩) n c) (rs.take n) := by
  rcases h with ⟨h, _⟩ | ⟨g', off', c', h, h1, h2, h3⟩
  · cases h
  · cases h
    refine Or.inr ⟨g, off, c, by simp; omega, by simp; omega, by omega, fun j u hj => ?_⟩
    refine h3 j u ?_
    simp only [bytesOf, List.getElem?_map, List.getElem?_take] at hj ⊢
    split at hj
    · exact hj
    · simp at hj
end Go.Proofs.YthdkihnmeoacaaaGreatDoor

namespace Go.Proofs.YthdkihnmeoacaaaGreatDoor
open Go.RowKit
set_option linter.unusedVariables false
set_option maxRecDepth 100000

theorem upper_any (v : Int) (w : World) (h0 : 0 ≤ v) (h1 : v < 1000000) :
    Calls Tryz.prog 110 #[.int .u32 v] w fun e w' => e = .returned (.int .u32 ((v + 254) % 255 + 1)) ∧ w = w' := by
  go_enter Tryz.func110, Tryz.ntmps110
  go_wp2
  go_ret
  rw [show v + 254 = v + 255 - 1 by omega]
  exact ⟨rfl, rfl⟩

def modv (a b i : Int) : Int := (if i = 0 then a else b) % 255
theorem mod_x (a b i : Int) (w : World) (hi : i = 0 ∨ i = 1) (h0 : 0 ≤ a) (h1 : a < 4294967296) (k0 : 0 ≤ b) (k1 : b < 4294967296) :
    Calls Tryz.prog 127 #[.agg #[.int .u32 a, .int .u32 b], .int .i64 i] w fun e w' => e = .returned (.int .u32 (modv a b i)) ∧ w' = w.alloc (.cells #[.int .u32 a, .int .u32 b] 189) := by
  rcases hi with rfl | rfl
  all_goals
    go_enter Tryz.func127, Tryz.ntmps127
    go_wp2
    go_ret
    exact ⟨rfl, rfl⟩

def SOut (w0 : World) (b : Nat) (l rs : List Int) (g : Nat) (s : Value) (wr : World) : Prop :=
  ∃ (pre rest : List Int) (h k : Int), rest.length ≤ g ∧ pre ++ rest = rs ∧ ArgAt w0 s rest ∧ Two wr b h k ∧ Run (l ++ pre) h k ∧ 0 ≤ h ∧ 0 ≤ k ∧ h < 4294967296 ∧ k < 4294967296 ∧ Touch (fun _ => False) w0 wr

def SIn (w0 : World) (b : Nat) (l pre rest : List Int) (g : Nat) (i : Value) (wr : World) : Prop :=
  ∃ (j : Nat) (h k : Int), j + g = rest.length ∧ j ≤ 4096 ∧ i = .int .i64 (j : Int) ∧ Two wr b h k ∧ Run ((l ++ pre) ++ rest.take j) h k ∧ 0 ≤ h ∧ 0 ≤ k ∧ h ≤ 254 + 255 * (j : Int) ∧ k ≤ 254 + 1044734 * (j : Int) ∧ Touch (fun _ => False) w0 wr

set_option maxHeartbeats 4000000 in
theorem sadd_any (w0 : World) (b : Nat) (v : Value) (l rs : List Int) (h k : Int) (w : World) (hv : ArgAt w0 v rs) (hby : ∀ x ∈ rs, 0 ≤ x ∧ x < 256) (hc : Two w b h k) (hr : Run l h k) (h0 : 0 ≤ h) (k0 : 0 ≤ k) (h1 : h < 4294967296) (k1 : k < 4294967296)
    (hb0 : w0.heap.size ≤ b) (t : Touch (fun _ => False) w0 w) :
    Calls Tryz.prog 126 #[.pointer (some ⟨b, 0, none⟩), v] w fun e w' => e = .returned (.tuple #[]) ∧ (∃ h k, Two w' b h k ∧ Run (l ++ rs) h k ∧ 0 ≤ h ∧ 0 ≤ k ∧ h < 4294967296 ∧ k < 4294967296) ∧ Touch (fun _ => False) w0 w' := by
  have HBy : Hid (∀ x ∈ rs, 0 ≤ x ∧ x < 256) := hby
  have hW : SOut w0 b l rs rs.length v w := ⟨[], rs, h, k, Nat.le_refl _, rfl, hv, hc, by simpa using hr, h0, k0, h1, k1, t⟩
  clear hv hby hc hr h0 k0 h1 k1 t
  go_enter Tryz.func126, Tryz.ntmps126
  go_wp2
  go_step3
  go_wp2
  go_step3
  go_wp2
  go_loopg [1] rs.length (fun g s wx => SOut w0 b l rs g s wx)
  case atStart => exact hW
  case round =>
    obtain ⟨pre, rest, h, k, hg, hrs, hs, hc, hr, h0, k0, h1, k1, t⟩ := hrel
    have HR : Hid (pre ++ rest = rs) := hrs
    have HRU : Hid (Run (l ++ pre) h k) := hr
    have HC : Hid (Two wr b h k) := hc
    have HT : Hid (Touch (fun _ => False) w0 wr) := t
    obtain ⟨c0, c1, f0, f1⟩ := hc
    have hbl := lt_of_cell c0
    obtain ⟨sa, sc, rfl, hm⟩ := hs.form
    unfold maxLen at hm
    have HS : Hid (ArgAt w0 (.slice sa rest.length sc) rest) := hs
    have hm0 : modv h k 0 = h % 255 := rfl
    have hm1 : modv h k 1 = k % 255 := rfl
    clear hW hrs hr t hs
    go_wp2_with fail
    go_region_with (go_at_call 127; refine (mod_x h k _ _ (by decide) h0 h1 k0 k1).mono ?_; rintro e w2 ⟨rfl, rfl⟩)
    all_goals
      have hc1 : Two (((((wr.setCell ⟨b, 0, none⟩ (.int .u32 (h % 255))).setCell ⟨b, 1, none⟩ (.int .u32 (k % 255))).alloc (.cells #[.int .u32 h, .int .u32 k] 189)).alloc (.cells #[.int .u32 h, .int .u32 k] 189)).drew) b (h % 255) (k % 255) := ((HC.out.set0 _).set1 _).keep ((((Touch.refl _ _).alloc _).alloc _).drew)
      have t1 : Touch (fun _ => False) w0 (((((wr.setCell ⟨b, 0, none⟩ (.int .u32 (h % 255))).setCell ⟨b, 1, none⟩ (.int .u32 (k % 255))).alloc (.cells #[.int .u32 h, .int .u32 k] 189)).alloc (.cells #[.int .u32 h, .int .u32 k] 189)).drew) := ((((HT.out.new (p := ⟨b, 0, none⟩) hb0 _).new (p := ⟨b, 1, none⟩) hb0 _).alloc _).alloc _).drew
      revert hc1 t1
      generalize ((((wr.setCell ⟨b, 0, none⟩ (.int .u32 (h % 255))).setCell ⟨b, 1, none⟩ (.int .u32 (k % 255))).alloc (.cells #[.int .u32 h, .int .u32 k] 189)).alloc (.cells #[.int .u32 h, .int .u32 k] 189)).drew = wc
      intro hc1 t1
      have hI : SIn w0 b l pre rest rest.length (.int .i64 ((0 : Nat) : Int)) wc := ⟨0, _, _, by omega, by omega, rfl, hc1, by simpa using HRU.out.mod, by omega, by omega, by omega, by omega, t1⟩
      clear hc1 t1 HC HT hm0 hm1 c0 c1 f0 f1 hbl
      go_wp2_with fail
      go_loopg [1, 22] rest.length (fun g s i wx => s = .slice sa rest.length sc ∧ SIn w0 b l pre rest g i wx)
      case atStart => exact ⟨rfl, hI⟩
      case round =>
        obtain ⟨rfl, j, h, k, hj, hj1, rfl, hc, hr, h0, k0, hh, hk, t⟩ := hrel
        have HT : Hid (Touch (fun _ => False) w0 wr) := t
        have HC : Hid (Two wr b h k) := hc
        obtain ⟨c0, c1, f0, f1⟩ := hc
        have HW : Hid (Run ((l ++ pre) ++ rest.take j) h k) := hr
        clear hI hr t
        by_cases hlt : j < rest.length
        · have hs := HS.out.row (by omega)
          obtain ⟨ga, oa, rfl⟩ := rowAt_some hs (by omega)
          have hcx := HT.out.cellN (rowAt_cell hs j hlt)
          have HZ : Hid (rest.take (j + 1) = rest.take j ++ [rest.getD j 0]) := by
            show _ = _
            rw [List.take_add_one, List.getElem?_eq_getElem hlt]
            simp [List.getD, hlt]
          have hz : 0 ≤ rest.getD j 0 ∧ rest.getD j 0 < 256 := HBy.out _ (by rw [← HR.out]; exact List.mem_append_right _ (by simp [List.getD, hlt]))
          revert hcx HZ hz
          generalize rest.getD j 0 = z
          intro hcx HZ hz
          obtain ⟨hz0, hz1⟩ := hz
          by_cases hq : j = 4096
          · subst hq
            have hcap := rowAt_cap hs
            have HN : Hid (SOut w0 b l rs (rest.length - 4096) (.slice (some ⟨ga, oa + 4096, none⟩) (rest.length - 4096) (sc - 4096)) wr) :=
              ⟨pre ++ rest.take 4096, rest.drop 4096, h, k, by simp, by rw [List.append_assoc, List.take_append_drop]; exact HR.out, (rowAt_drop hs 4096 (by omega)).arg, HC.out, by rw [← List.append_assoc]; exact HW.out, h0, k0, by omega, by omega, HT.out⟩
            have hlt' : (4096 : Int) < (rest.length : Int) := by omega
            have hcap' : (rest.length : Int) ≤ (sc : Int) := by omega
            clear hs
            go_wp2_with fail
            go_roundg (rest.length - 4096)
            case measure => omega
            case rel => exact HN.out
          · clear hs
            have hq' : ((j : Int) == 4096) = false := by simp; omega
            have HN : Hid (SIn w0 b l pre rest (rest.length - (j + 1)) (.int .i64 ((j : Int) + 1)) (((wr.setCell ⟨b, 0, none⟩ (.int .u32 (h + z))).setCell ⟨b, 1, none⟩ (.int .u32 (k + (h + z)))).drew.drew)) :=
              ⟨j + 1, h + z, k + (h + z), by omega, by omega, by rw [Int.natCast_add]; rfl, ((HC.out.set0 _).set1 _).drew.drew, by rw [HZ.out, ← List.append_assoc]; exact HW.out.snoc z, by omega, by omega, by omega, by omega, (((HT.out.new (p := ⟨b, 0, none⟩) hb0 _).new (p := ⟨b, 1, none⟩) hb0 _).drew).drew⟩
            clear hq
            go_wp2_with fail
            go_region
            go_wp2_with fail
            go_region
            go_wp2
            go_roundg (rest.length - (j + 1))
            case measure => omega
            case rel => exact ⟨rfl, HN.out⟩
        · obtain rfl : j = rest.length := by omega
          have HE : Hid (Run (l ++ rs) h k) := by
            have := HW.out
            rw [List.take_length, List.append_assoc, HR.out] at this
            exact this
          go_wp2_with fail
          rw [Exit.noGoto_ret]
          refine bodyPost_ret (results_none rfl _ _ _) rfl ?_
          exact ⟨rfl, ⟨h, k, HC.out, HE.out, h0, k0, by omega, by omega⟩, HT.out⟩
end Go.Proofs.YthdkihnmeoacaaaGreatDoor

namespace Go.Proofs.YthdkihnmeoacaaaGreatDoor
open Go.RowKit
set_option linter.unusedVariables false
set_option maxRecDepth 100000

/-- The function value that addBytes hands back. -/
structure SFun (v : Value) (rs : List Int) : Prop where
  ex : ∃ h k : Int, v = .func (.func 127) #[.agg #[.int .u32 h, .int .u32 k]] #[] ∧ Run rs h k ∧ 0 ≤ h ∧ 0 ≤ k ∧ h < 4294967296 ∧ k < 4294967296

/-- A part: its value, its bytes. -/
structure PartAt (w : World) (pg i : Nat) (p : Value × List Int) : Prop where
  cell : w.cell? ⟨pg, i, none⟩ = some p.1
  arg : ArgAt w p.1 p.2
  byte : ∀ x ∈ p.2, 0 ≤ x ∧ x < 256

def PR (w : World) (b : Nat) (ps : List (Value × List Int)) (g : Nat) (i : Value) (wr : World) : Prop :=
  ∃ (j : Nat) (h k : Int), j + g = ps.length ∧ i = .int .i64 (j : Int) ∧ Two wr b h k ∧ Run ((ps.take j).map Prod.snd).flatten h k ∧ 0 ≤ h ∧ 0 ≤ k ∧ h < 4294967296 ∧ k < 4294967296 ∧ Touch (fun _ => False) w wr

theorem addBytes_any (pg : Nat) (ps : List (Value × List Int)) (w : World) (hn : ps.length ≤ 1000) (hp : ∀ i p, ps[i]? = some p → PartAt w pg i p) :
    Calls Tryz.prog 103 #[.slice (some ⟨pg, 0, none⟩) ps.length ps.length] w fun e w' => (∃ f, e = .returned f ∧ SFun f (ps.map Prod.snd).flatten) ∧ Touch (fun _ => False) w w' := by
  have hmf : ∀ (fn : Fn) (first cap : Array Value) (w : World), (Instr.makeFunc fn first cap).run Tryz.prog w = .ok (.func fn first cap) w := fun _ _ _ _ => rfl
  have HP : Hid (∀ i p, ps[i]? = some p → PartAt w pg i p) := hp
  clear hp
  go_enter Tryz.func103, Tryz.ntmps103
  go_wp2
  go_loopg [8] ps.length (fun g i wx => PR w w.heap.size ps g i wx)
  case atStart => exact ⟨0, 0, 0, by omega, rfl, ⟨by simp, by simp, by simp, by simp⟩, Run.zero, by omega, by omega, by omega, by omega, (Touch.refl _ w).alloc _⟩
  case round =>
    obtain ⟨j, h, k, hj, rfl, hc, hr, h0, k0, h1, k1, t⟩ := hrel
    by_cases hlt : j < ps.length
    · obtain ⟨⟨pv, pl⟩, hpj⟩ : ∃ p, ps[j]? = some p := ⟨_, List.getElem?_eq_getElem hlt⟩
      obtain ⟨pc, pa, pb⟩ := HP.out j _ hpj
      have HTk : Hid ((ps.take (j + 1)).map Prod.snd = (ps.take j).map Prod.snd ++ [pl]) := by
        show _ = _
        rw [List.take_add_one, hpj]
        simp
      have hcx : wr.cell? ⟨pg, j, none⟩ = some pv := t.cellN pc
      have HS := sadd_any w w.heap.size pv _ pl h k wr pa pb hc hr h0 k0 h1 k1 (Nat.le_refl _) t
      clear hpj pc pa pb hc hr t
      go_wp2_with fail
      refine HS.mono ?_
      rintro e w2 ⟨rfl, ⟨h', k', hc', hr', h0', k0', h1', k1'⟩, t'⟩
      have HN : Hid (PR w w.heap.size ps (ps.length - (j + 1)) (.int .i64 ((j : Int) + 1)) w2) := ⟨j + 1, h', k', by omega, by rw [Int.natCast_add]; rfl, hc', by rw [HTk.out, List.flatten_append]; simpa using hr', h0', k0', h1', k1', t'⟩
      clear HS hc' hr' t'
      go_wp2_with fail
      go_roundg (ps.length - (j + 1))
      case measure => omega
      case rel => exact HN.out
    · obtain rfl : j = ps.length := by omega
      rw [List.take_length] at hr
      have HR : Hid (Run (ps.map Prod.snd).flatten h k) := hr
      have HT : Hid (Touch (fun _ => False) w wr) := t
      obtain ⟨c0, c1, f0, f1⟩ := hc
      clear hr t
      go_wp2
      go_ret
      exact ⟨⟨_, rfl, ⟨h, k, rfl, HR.out, h0, k0, h1, k1⟩⟩, HT.out⟩

theorem add1 (pg : Nat) (v : Value) (l : List Int) (w : World) (c : w.cell? ⟨pg, 0, none⟩ = some v) (a : ArgAt w v l) (hb : ∀ x ∈ l, 0 ≤ x ∧ x < 256) :
    Calls Tryz.prog 103 #[.slice (some ⟨pg, 0, none⟩) 1 1] w fun e w' => (∃ f, e = .returned f ∧ SFun f l) ∧ Touch (fun _ => False) w w' := by
  have := addBytes_any pg [(v, l)] w (by simp) (fun i p h => by
    match i, h with
    | 0, h => simp at h; subst h; exact ⟨c, a, hb⟩
    | i + 1, h => simp at h)
  simpa using this
theorem add3 (pg : Nat) (v1 v2 v3 : Value) (l1 l2 l3 : List Int) (w : World) (c1 : w.cell? ⟨pg, 0, none⟩ = some v1) (c2 : w.cell? ⟨pg, 1, none⟩ = some v2) (c3 : w.cell? ⟨pg, 2, none⟩ = some v3) (a1 : ArgAt w v1 l1) (a2 : ArgAt w v2 l2) (a3 : ArgAt w v3 l3)
    (hb1 : ∀ x ∈ l1, 0 ≤ x ∧ x < 256) (hb2 : ∀ x ∈ l2, 0 ≤ x ∧ x < 256) (hb3 : ∀ x ∈ l3, 0 ≤ x ∧ x < 256) :
    Calls Tryz.prog 103 #[.slice (some ⟨pg, 0, none⟩) 3 3] w fun e w' => (∃ f, e = .returned f ∧ SFun f (l1 ++ (l2 ++ l3))) ∧ Touch (fun _ => False) w w' := by
  have := addBytes_any pg [(v1, l1), (v2, l2), (v3, l3)] w (by simp) (fun i p h => by
    match i, h with
    | 0, h => simp at h; subst h; exact ⟨c1, a1, hb1⟩
    | 1, h => simp at h; subst h; exact ⟨c2, a2, hb2⟩
    | 2, h => simp at h; subst h; exact ⟨c3, a3, hb3⟩
    | i + 3, h => simp at h)
  simpa using this

set_option maxHeartbeats 1000000 in
theorem swhole_any (v : Value) (rs : List Int) (w : World) (hv : ArgAt w v rs) (hby : ∀ x ∈ rs, 0 ≤ x ∧ x < 256) :
    Calls Tryz.prog 78 #[v] w fun e w' => e = .returned (.bool (whole rs)) ∧ Touch (fun _ => False) w w' := by
  obtain ⟨B, hB⟩ : ∃ B, whole rs = B := ⟨_, rfl⟩
  have HB : Hid (whole rs = B) := hB
  rw [hB]
  clear hB
  obtain ⟨va, vc, rfl, hm⟩ := hv.form
  go_enter Tryz.func78, Tryz.ntmps78
  go_wp2_with fail
  refine (add1 _ (.slice va rs.length vc) rs _ ?pcell ?parg hby).mono ?_
  case pcell => simp
  case parg => exact hv.keep ((Touch.refl (fun _ => False) w).alloc _) (fun _ _ h => h)
  rintro e w1 ⟨⟨f, rfl, ⟨h, k, rfl, hr, h0, k0, h1, k1⟩⟩, t1⟩
  have HT : Hid (Touch (fun _ => False) w w1) := ((Touch.refl _ w).alloc _).trans t1
  have hr0 := hr.c0
  have hr1 := hr.c1
  have hm0 : modv h k 0 = h % 255 := rfl
  have hm1 : modv h k 1 = k % 255 := rfl
  clear hv hby t1 hr
  by_cases e0 : h % 255 = 0
  · by_cases e1 : k % 255 = 0
    · have HBt : Hid (B = true) := by show _ = _; rw [← HB.out, whole_iff]; exact ⟨by omega, by omega⟩
      clear hr0 hr1
      go_wp2_with fail
      refine (mod_x h k 0 _ (Or.inl rfl) h0 h1 k0 k1).mono ?_
      rintro e w2 ⟨rfl, rfl⟩
      go_wp2_with fail
      refine (mod_x h k 1 _ (Or.inr rfl) h0 h1 k0 k1).mono ?_
      rintro e w2 ⟨rfl, rfl⟩
      go_wp2
      go_ret
      rw [HBt.out]
      exact ⟨rfl, (HT.out.alloc _).alloc _⟩
    · have e1' : (k % 255 == 0) = false := by simpa using e1
      have HBt : Hid (B = false) := by show _ = _; rw [← HB.out, ← Bool.not_eq_true, whole_iff]; rintro ⟨_, q⟩; omega
      clear hr0 hr1
      go_wp2_with fail
      refine (mod_x h k 0 _ (Or.inl rfl) h0 h1 k0 k1).mono ?_
      rintro e w2 ⟨rfl, rfl⟩
      go_wp2_with fail
      refine (mod_x h k 1 _ (Or.inr rfl) h0 h1 k0 k1).mono ?_
      rintro e w2 ⟨rfl, rfl⟩
      go_wp2
      go_ret
      rw [HBt.out]
      exact ⟨rfl, (HT.out.alloc _).alloc _⟩
  · have e0' : (h % 255 == 0) = false := by simpa using e0
    have HBt : Hid (B = false) := by show _ = _; rw [← HB.out, ← Bool.not_eq_true, whole_iff]; rintro ⟨q, _⟩; omega
    clear hr0 hr1
    go_wp2_with fail
    refine (mod_x h k 0 _ (Or.inl rfl) h0 h1 k0 k1).mono ?_
    rintro e w2 ⟨rfl, rfl⟩
    go_wp2
    go_ret
    rw [HBt.out]
    exact ⟨rfl, HT.out.alloc _⟩
end Go.Proofs.YthdkihnmeoacaaaGreatDoor

namespace Go.Proofs.YthdkihnmeoacaaaGreatDoor
open Go.RowKit
set_option linter.unusedVariables false
set_option maxRecDepth 100000

theorem slice_from (ga oa n vc a : Nat) (h : a + 2 ≤ n) (hc : n ≤ vc) (hz : ¬ vc = a + 2) (w : World) : Sem.run Tryz.prog (Instr.slice 28 (.slice (some ⟨ga, oa, none⟩) n vc) (some (.int .i64 ((a : Int) + 2))) none none) w = .ok (.slice (some ⟨ga, oa + (a + 2), none⟩) (n - (a + 2)) (vc - (a + 2))) w := by
  have h6 : ((a : Int) + 2).toNat = a + 2 := by omega
  have h8 : (0 : Int) ≤ (a : Int) + 2 := by omega
  have h4 : (a : Int) + 2 ≤ (n : Int) := by omega
  simp [Instr.slice, Instr.sliceBounds, Instr.sliceBound, go_sem, h6, h8, h4, hz]
theorem slice_end (ga oa n vc a : Nat) (h : a + 2 ≤ n) (hc : n ≤ vc) (hz : vc = a + 2) (w : World) : Sem.run Tryz.prog (Instr.slice 28 (.slice (some ⟨ga, oa, none⟩) n vc) (some (.int .i64 ((a : Int) + 2))) none none) w = .ok (.slice (some ⟨ga, oa, none⟩) (n - (a + 2)) (vc - (a + 2))) w := by
  have h6 : ((a : Int) + 2).toNat = a + 2 := by omega
  have h8 : (0 : Int) ≤ (a : Int) + 2 := by omega
  have h4 : (a : Int) + 2 ≤ (n : Int) := by omega
  simp [Instr.slice, Instr.sliceBounds, Instr.sliceBound, go_sem, h6, h8, h4, hz]
theorem fletcher_out (v : Value) (rs : List Int) (a : Int) (w : World) (hv : ArgAt w v rs) (h : a < 0 ∨ (rs.length : Int) - 2 < a) :
    Calls Tryz.prog 92 #[v, .int .i64 a] w fun e w' => e = .returned (.tuple #[.int .u16 0, .int .i64 1]) ∧ w = w' := by
  obtain ⟨va, vc, rfl, hm⟩ := hv.form
  unfold maxLen at hm
  clear hv
  by_cases h0 : a < 0
  · clear h
    go_enter Tryz.func92, Tryz.ntmps92
    go_wp2
    go_ret2
    exact ⟨rfl, rfl⟩
  · have h0' : decide (a < 0) = false := by simpa using h0
    have h2 : (rs.length : Int) - 2 < a := by omega
    clear h
    go_enter Tryz.func92, Tryz.ntmps92
    go_wp2
    go_ret2
    exact ⟨rfl, rfl⟩

theorem mem_take_byte {rs : List Int} (h : ∀ x ∈ rs, 0 ≤ x ∧ x < 256) (n : Nat) : ∀ x ∈ rs.take n, 0 ≤ x ∧ x < 256 := fun x hx => h x (List.mem_of_mem_take hx)
theorem mem_drop_byte {rs : List Int} (h : ∀ x ∈ rs, 0 ≤ x ∧ x < 256) (n : Nat) : ∀ x ∈ rs.drop n, 0 ≤ x ∧ x < 256 := fun x hx => h x (List.mem_of_mem_drop hx)
theorem mul_bound {x y : Int} (hx : 0 ≤ x ∧ x ≤ 254) (hy : 0 ≤ y ∧ y ≤ 254) : 0 ≤ x * y ∧ x * y ≤ 64516 := by
  refine ⟨Int.mul_nonneg hx.1 hy.1, ?_⟩
  have h1 : x * y ≤ 254 * y := Int.mul_le_mul_of_nonneg_right hx.2 hy.1
  omega

/-- The world behind the two literals of Fletcher. -/
abbrev flW (w : World) (v1 v3 : Value) : World := ((w.alloc (.cells #[.int .u8 0, .int .u8 0] 5)).alloc (.cells #[v1, .slice (some ⟨w.heap.size, 0, none⟩) 2 2, v3] 28)).drew
theorem fl_call (rs : List Int) (a : Nat) (w : World) (v1 v3 : Value) (h1 : ArgAt w v1 (rs.take a)) (h3 : ArgAt w v3 (rs.drop (a + 2))) (hby : ∀ x ∈ rs, 0 ≤ x ∧ x < 256) (h : a + 2 ≤ rs.length) :
    Calls Tryz.prog 103 #[.slice (some ⟨w.heap.size + 1, 0, none⟩) 3 3] (flW w v1 v3) fun e w' => (∃ f, e = .returned f ∧ SFun f (laid rs a 0 0)) ∧ Touch (fun _ => False) w w' := by
  have t : Touch (fun _ => False) w (flW w v1 v3) := (((Touch.refl _ w).alloc _).alloc _).drew
  have h2 : ArgAt (flW w v1 v3) (.slice (some ⟨w.heap.size, 0, none⟩) 2 2) [0, 0] := RowAt.arg (Or.inr ⟨w.heap.size, 0, 2, rfl, by simp, by simp [maxLen], fun j u hj => by
    match j, hj with
    | 0, hj => simp [bytesOf] at hj; subst hj; simp
    | 1, hj => simp [bytesOf] at hj; subst hj; simp
    | j + 2, hj => simp [bytesOf] at hj⟩)
  have k := add3 (w.heap.size + 1) v1 (.slice (some ⟨w.heap.size, 0, none⟩) 2 2) v3 (rs.take a) [0, 0] (rs.drop (a + 2)) (flW w v1 v3) (by simp) (by simp) (by simp) (h1.keep t (fun _ _ h => h)) h2 (h3.keep t (fun _ _ h => h)) (mem_take_byte hby a) (by simp) (mem_drop_byte hby _)
  rw [laid_cut rs a 0 0 h]
  exact k.mono fun e w' ⟨x, t'⟩ => ⟨x, t.trans t'⟩

set_option maxHeartbeats 4000000 in
theorem fletcher_in (ga oa vc : Nat) (rs : List Int) (a : Nat) (w : World) (hv : RowAt w (.slice (some ⟨ga, oa, none⟩) rs.length vc) rs) (hby : ∀ x ∈ rs, 0 ≤ x ∧ x < 256) (h : a + 2 ≤ rs.length) :
    Calls Tryz.prog 92 #[.slice (some ⟨ga, oa, none⟩) rs.length vc, .int .i64 (a : Int)] w fun e w' => e = .returned (.tuple #[.int .u16 (256 * flx rs a + fly rs a), .int .i64 0]) ∧ Touch (fun _ => False) w w' := by
  have hcap := rowAt_cap hv
  have hm : vc ≤ maxLen := by
    rcases hv with ⟨h, _⟩ | ⟨g', off', c', h, _, h2, _⟩
    · cases h
    · cases h; exact h2
  unfold maxLen at hm
  have h0 : ¬ (a : Int) < 0 := by omega
  have h1 : ¬ (rs.length : Int) - 2 < (a : Int) := by omega
  have h2 : (0 : Int) ≤ (a : Int) := by omega
  have h3 : (a : Int) ≤ (vc : Int) := by omega
  have h4 : (a : Int) + 2 ≤ (rs.length : Int) := by omega
  have h5 : (rs.length : Int) ≤ (vc : Int) := by omega
  have h6 : ((a : Int) + 2).toNat = a + 2 := by omega
  have h7 : ¬ vc = 0 := by omega
  have h8 : (0 : Int) ≤ (a : Int) + 2 := by omega
  have h9 : (vc : Int) ≤ 9223372036854775807 := by omega
  have hw2 : IntKind.i64.wrap ((a : Int) + 2) = (a : Int) + 2 := by rw [IntKind.wrap_i64]; omega
  -- the numbers, each under a name
  obtain ⟨T, hT⟩ : ∃ T, ((rs.length : Int) - (a : Int) - 1) % 255 = T := ⟨_, rfl⟩
  obtain ⟨C0, hC0⟩ : ∃ C0, S0 (laid rs a 0 0) % 255 = C0 := ⟨_, rfl⟩
  obtain ⟨C1, hC1⟩ : ∃ C1, S1 (laid rs a 0 0) % 255 = C1 := ⟨_, rfl⟩
  obtain ⟨X, hX⟩ : ∃ X, (T * C0 + 255 - C1 + 254) % 255 + 1 = X := ⟨_, rfl⟩
  obtain ⟨Y, hY⟩ : ∃ Y, (510 - C0 - X + 254) % 255 + 1 = Y := ⟨_, rfl⟩
  have hfx : flx rs a = X := by unfold flx fx tms; rw [hT, hC0, hC1, hX]
  have hfy : fly rs a = Y := by unfold fly fy; rw [hfx, hC0, hY]
  obtain ⟨F, hF⟩ : ∃ F, 256 * flx rs a + fly rs a = F := ⟨_, rfl⟩
  rw [hF]
  rw [hfx, hfy] at hF
  have HF : Hid (X * 256 + Y = F) := by show _ = _; omega
  have hTb : 0 ≤ T ∧ T ≤ 254 := by omega
  have hCb : 0 ≤ C0 ∧ C0 ≤ 254 := by omega
  obtain ⟨hP0, hP1⟩ := mul_bound hTb hCb
  obtain ⟨hT0, hT1⟩ := hTb
  obtain ⟨hC00, hC01⟩ := hCb
  have hC10 : 0 ≤ C1 := by omega
  have hC11 : C1 ≤ 254 := by omega
  have hX0 : 1 ≤ X := by omega
  have hX1 : X ≤ 255 := by omega
  have hY0 : 1 ≤ Y := by omega
  have hY1 : Y ≤ 255 := by omega
  have hor := or8 (x := X) (y := Y) (by omega) (by omega) (by omega) (by omega)
  have HU1 : ∀ w : World, Calls Tryz.prog 110 #[.int .u32 (T * C0 + 255 - C1)] w fun e w' => e = .returned (.int .u32 X) ∧ w = w' := fun w => by
    have := upper_any (T * C0 + 255 - C1) w (by omega) (by omega)
    rwa [hX] at this
  have HU2 : ∀ w : World, Calls Tryz.prog 110 #[.int .u32 (510 - C0 - X)] w fun e w' => e = .returned (.int .u32 Y) ∧ w = w' := fun w => by
    have := upper_any (510 - C0 - X) w (by omega) (by omega)
    rwa [hY] at this
  have HC0 : Hid (S0 (laid rs a 0 0) % 255 = C0) := hC0
  have HC1 : Hid (S1 (laid rs a 0 0) % 255 = C1) := hC1
  have HT : Hid (((rs.length : Int) - (a : Int) - 1) % 255 = T) := hT
  have a1 : ArgAt w (.slice (some ⟨ga, oa, none⟩) a vc) (rs.take a) := (rowAt_take hv a (by omega)).arg
  have hd := rowAt_drop hv (a + 2) h
  have HA : ∀ v3 : Value, ArgAt w v3 (rs.drop (a + 2)) → _ := fun v3 h3 => fl_call rs a w _ v3 a1 h3 hby h
  clear hX hY hfx hfy hF hC0 hC1 hT a1 hby
  by_cases hz : vc = a + 2
  · have hz' : a + 2 = rs.length := by omega
    obtain rfl : vc = rs.length := by omega
    have hs2 := slice_end ga oa rs.length rs.length a h hcap hz
    have hd0 : ArgAt w (.slice (some ⟨ga, oa, none⟩) 0 0) (rs.drop (a + 2)) := by
      rw [List.drop_eq_nil_of_le (by omega)]
      exact (RowAt.arg (Or.inr ⟨ga, oa, 0, by simp, by simp, by simp, by intro j u hj; simp [bytesOf] at hj⟩))
    replace HA := HA (.slice (some ⟨ga, oa, none⟩) 0 0) hd0
    clear hd hv hd0 hz
    go_enter Tryz.func92, Tryz.ntmps92
    go_wp2_with fail
    go_region_with (go_at_call 103; refine HA.mono ?_; rintro e w1 ⟨⟨f, rfl, ⟨H, K, rfl, hr, H0, K0, H1, K1⟩⟩, t1⟩)
    have hm0 : modv H K 0 = C0 := by show H % 255 = C0; rw [hr.c0, HC0.out]
    have hm1 : modv H K 1 = C1 := by show K % 255 = C1; rw [hr.c1, HC1.out]
    have hT := HT.out
    clear HA hs2 hz' hr h2 h3 h6 h7 h8 hw2
    go_wp2_with fail
    refine (mod_x H K 0 _ (Or.inl rfl) H0 H1 K0 K1).mono ?_
    rintro e w2 ⟨rfl, rfl⟩
    clear hT
    go_wp2_with fail
    refine (mod_x H K 1 _ (Or.inr rfl) H0 H1 K0 K1).mono ?_
    rintro e w2 ⟨rfl, rfl⟩
    go_wp2_with fail
    refine (HU1 _).mono ?_
    rintro e w2 ⟨rfl, rfl⟩
    go_wp2_with fail
    refine (mod_x H K 0 _ (Or.inl rfl) H0 H1 K0 K1).mono ?_
    rintro e w2 ⟨rfl, rfl⟩
    go_wp2_with fail
    refine (HU2 _).mono ?_
    rintro e w2 ⟨rfl, rfl⟩
    go_wp2
    go_ret2
    exact ⟨by rw [← HF.out]; rfl, ((t1.alloc _).alloc _).alloc _⟩
  · have hs2 := slice_from ga oa rs.length vc a h hcap hz
    replace HA := HA (.slice (some ⟨ga, oa + (a + 2), none⟩) (rs.length - (a + 2)) (vc - (a + 2))) hd.arg
    clear hd hv
    go_enter Tryz.func92, Tryz.ntmps92
    go_wp2_with fail
    go_region_with (go_at_call 103; refine HA.mono ?_; rintro e w1 ⟨⟨f, rfl, ⟨H, K, rfl, hr, H0, K0, H1, K1⟩⟩, t1⟩)
    have hm0 : modv H K 0 = C0 := by show H % 255 = C0; rw [hr.c0, HC0.out]
    have hm1 : modv H K 1 = C1 := by show K % 255 = C1; rw [hr.c1, HC1.out]
    have hT := HT.out
    clear HA hs2 hz hr h2 h3 h6 h7 h8 hw2
    go_wp2_with fail
    refine (mod_x H K 0 _ (Or.inl rfl) H0 H1 K0 K1).mono ?_
    rintro e w2 ⟨rfl, rfl⟩
    clear hT
    go_wp2_with fail
    refine (mod_x H K 1 _ (Or.inr rfl) H0 H1 K0 K1).mono ?_
    rintro e w2 ⟨rfl, rfl⟩
    go_wp2_with fail
    refine (HU1 _).mono ?_
    rintro e w2 ⟨rfl, rfl⟩
    go_wp2_with fail
    refine (mod_x H K 0 _ (Or.inl rfl) H0 H1 K0 K1).mono ?_
    rintro e w2 ⟨rfl, rfl⟩
    go_wp2_with fail
    refine (HU2 _).mono ?_
    rintro e w2 ⟨rfl, rfl⟩
    go_wp2
    go_ret2
    exact ⟨by rw [← HF.out]; rfl, ((t1.alloc _).alloc _).alloc _⟩

/-- Fletcher, within its places. -/
theorem fletcher_any (v : Value) (rs : List Int) (a : Nat) (w : World) (hv : ArgAt w v rs) (hby : ∀ x ∈ rs, 0 ≤ x ∧ x < 256) (h : a + 2 ≤ rs.length) :
    Calls Tryz.prog 92 #[v, .int .i64 (a : Int)] w fun e w' => e = .returned (.tuple #[.int .u16 (256 * flx rs a + fly rs a), .int .i64 0]) ∧ Touch (fun _ => False) w w' := by
  have hr := hv.row (by omega)
  obtain ⟨va, vc, rfl, _⟩ := hv.form
  obtain ⟨ga, oa, rfl⟩ := rowAt_some hr (by omega)
  exact fletcher_in ga oa vc rs a w hr hby h
end Go.Proofs.YthdkihnmeoacaaaGreatDoor
