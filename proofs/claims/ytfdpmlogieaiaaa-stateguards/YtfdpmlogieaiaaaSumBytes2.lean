/- Contracts: addBytes, Whole. -/
import Derived.Test.YtfdpmlogieaiaaaSumBytes
namespace Go.Proofs.Ytfdpmlogieaiaaa
open Go.RowKit
set_option linter.unusedVariables false
set_option maxRecDepth 100000

/-- The function value that addBytes hands back. -/
structure SFun (v : Value) (rs : List Int) : Prop where
  ex : ∃ h k : Int, v = .func (.func 73) #[.agg #[.int .u32 h, .int .u32 k]] #[] ∧ Run rs h k ∧ 0 ≤ h ∧ 0 ≤ k ∧ h < 4294967296 ∧ k < 4294967296

/-- A part: its value, its bytes. -/
structure PartAt (w : World) (pg i : Nat) (p : Value × List Int) : Prop where
  cell : w.cell? ⟨pg, i, none⟩ = some p.1
  arg : ArgAt w p.1 p.2
  byte : ∀ x ∈ p.2, 0 ≤ x ∧ x < 256

def PR (w : World) (b : Nat) (ps : List (Value × List Int)) (g : Nat) (i : Value) (wr : World) : Prop :=
  ∃ (j : Nat) (h k : Int), j + g = ps.length ∧ i = .int .i64 (j : Int) ∧ Two wr b h k ∧ Run ((ps.take j).map Prod.snd).flatten h k ∧ 0 ≤ h ∧ 0 ≤ k ∧ h < 4294967296 ∧ k < 4294967296 ∧ Touch (fun _ => False) w wr

theorem addBytes_any (pg : Nat) (ps : List (Value × List Int)) (w : World) (hn : ps.length ≤ 1000) (hp : ∀ i p, ps[i]? = some p → PartAt w pg i p) :
    Calls Try.prog 52 #[.slice (some ⟨pg, 0, none⟩) ps.length ps.length] w fun e w' => (∃ f, e = .returned f ∧ SFun f (ps.map Prod.snd).flatten) ∧ Touch (fun _ => False) w w' := by
  have hmf : ∀ (fn : Fn) (first cap : Array Value) (w : World), (Instr.makeFunc fn first cap).run Try.prog w = .ok (.func fn first cap) w := fun _ _ _ _ => rfl
  have HP : Hid (∀ i p, ps[i]? = some p → PartAt w pg i p) := hp
  clear hp
  go_enter Try.func52, Try.ntmps52
  go_wp2
  go_loopg [8] ps.length (fun g i wx => PR w w.heap.size ps g i wx)
  case atStart => exact ⟨0, 0, 0, by omega, rfl, ⟨by simp, by simp, by simp, by simp⟩, Run.zero, by omega, by omega, by omega, by omega, (Touch.refl _ w).alloc _⟩
  case round =>
    obtain ⟨j, h, k, hj, rfl, hc, hr, h0, k0, h1, k1, t⟩ := hrel
    by_cases hlt : j < ps.length
    · obtain ⟨⟨pv, pl⟩, hpj⟩ : ∃ p, ps[j]? = some p := ⟨_, List.getElem?_eq_getElem hlt⟩
      obtain ⟨pc, pa, pb⟩ := HP.out j _ hpj
      have HTk : Hid ((ps.take (j + 1)).map Prod.snd = (ps.take j).map Prod.snd ++ [pl]) := by
        show _ = _
        rw [List.take_add_one, hpj]
        simp
      have hcx : wr.cell? ⟨pg, j, none⟩ = some pv := t.cellN pc
      have HS := sadd_any w w.heap.size pv _ pl h k wr pa pb hc hr h0 k0 h1 k1 (Nat.le_refl _) t
      clear hpj pc pa pb hc hr t
      go_wp2_with fail
      refine HS.mono ?_
      rintro e w2 ⟨rfl, ⟨h', k', hc', hr', h0', k0', h1', k1'⟩, t'⟩
      have HN : Hid (PR w w.heap.size ps (ps.length - (j + 1)) (.int .i64 ((j : Int) + 1)) w2) := ⟨j + 1, h', k', by omega, by rw [Int.natCast_add]; rfl, hc', by rw [HTk.out, List.flatten_append]; simpa using hr', h0', k0', h1', k1', t'⟩
      clear HS hc' hr' t'
      go_wp2_with fail
      go_roundg (ps.length - (j + 1))
      case measure => omega
      case rel => exact HN.out
    · obtain rfl : j = ps.length := by omega
      rw [List.take_length] at hr
      have HR : Hid (Run (ps.map Prod.snd).flatten h k) := hr
      have HT : Hid (Touch (fun _ => False) w wr) := t
      obtain ⟨c0, c1, f0, f1⟩ := hc
      clear hr t
      go_wp2
      go_ret
      exact ⟨⟨_, rfl, ⟨h, k, rfl, HR.out, h0, k0, h1, k1⟩⟩, HT.out⟩

theorem add1 (pg : Nat) (v : Value) (l : List Int) (w : World) (c : w.cell? ⟨pg, 0, none⟩ = some v) (a : ArgAt w v l) (hb : ∀ x ∈ l, 0 ≤ x ∧ x < 256) :
    Calls Try.prog 52 #[.slice (some ⟨pg, 0, none⟩) 1 1] w fun e w' => (∃ f, e = .returned f ∧ SFun f l) ∧ Touch (fun _ => False) w w' := by
  have := addBytes_any pg [(v, l)] w (by simp) (fun i p h => by
    match i, h with
    | 0, h => simp at h; subst h; exact ⟨c, a, hb⟩
    | i + 1, h => simp at h)
  simpa using this
theorem add3 (pg : Nat) (v1 v2 v3 : Value) (l1 l2 l3 : List Int) (w : World) (c1 : w.cell? ⟨pg, 0, none⟩ = some v1) (c2 : w.cell? ⟨pg, 1, none⟩ = some v2) (c3 : w.cell? ⟨pg, 2, none⟩ = some v3) (a1 : ArgAt w v1 l1) (a2 : ArgAt w v2 l2) (a3 : ArgAt w v3 l3)
    (hb1 : ∀ x ∈ l1, 0 ≤ x ∧ x < 256) (hb2 : ∀ x ∈ l2, 0 ≤ x ∧ x < 256) (hb3 : ∀ x ∈ l3, 0 ≤ x ∧ x < 256) :
    Calls Try.prog 52 #[.slice (some ⟨pg, 0, none⟩) 3 3] w fun e w' => (∃ f, e = .returned f ∧ SFun f (l1 ++ (l2 ++ l3))) ∧ Touch (fun _ => False) w w' := by
  have := addBytes_any pg [(v1, l1), (v2, l2), (v3, l3)] w (by simp) (fun i p h => by
    match i, h with
    | 0, h => simp at h; subst h; exact ⟨c1, a1, hb1⟩
    | 1, h => simp at h; subst h; exact ⟨c2, a2, hb2⟩
    | 2, h => simp at h; subst h; exact ⟨c3, a3, hb3⟩
    | i + 3, h => simp at h)
  simpa using this

set_option maxHeartbeats 1000000 in
theorem swhole_any (v : Value) (rs : List Int) (w : World) (hv : ArgAt w v rs) (hby : ∀ x ∈ rs, 0 ≤ x ∧ x < 256) :
    Calls Try.prog 35 #[v] w fun e w' => e = .returned (.bool (whole rs)) ∧ Touch (fun _ => False) w w' := by
  obtain ⟨B, hB⟩ : ∃ B, whole rs = B := ⟨_, rfl⟩
  have HB : Hid (whole rs = B) := hB
  rw [hB]
  clear hB
  obtain ⟨va, vc, rfl, hm⟩ := hv.form
  go_enter Try.func35, Try.ntmps35
  go_wp2_with fail
  refine (add1 _ (.slice va rs.length vc) rs _ ?pcell ?parg hby).mono ?_
  case pcell => simp
  case parg => exact hv.keep ((Touch.refl (fun _ => False) w).alloc _) (fun _ _ h => h)
  rintro e w1 ⟨⟨f, rfl, ⟨h, k, rfl, hr, h0, k0, h1, k1⟩⟩, t1⟩
  have HT : Hid (Touch (fun _ => False) w w1) := ((Touch.refl _ w).alloc _).trans t1
  have hr0 := hr.c0
  have hr1 := hr.c1
  have hm0 : modv h k 0 = h % 255 := rfl
  have hm1 : modv h k 1 = k % 255 := rfl
  clear hv hby t1 hr
  by_cases e0 : h % 255 = 0
  · by_cases e1 : k % 255 = 0
    · have HBt : Hid (B = true) := by show _ = _; rw [← HB.out, whole_iff]; exact ⟨by omega, by omega⟩
      clear hr0 hr1
      go_wp2_with fail
      refine (mod_x h k 0 _ (Or.inl rfl) h0 h1 k0 k1).mono ?_
      rintro e w2 ⟨rfl, rfl⟩
      go_wp2_with fail
      refine (mod_x h k 1 _ (Or.inr rfl) h0 h1 k0 k1).mono ?_
      rintro e w2 ⟨rfl, rfl⟩
      go_wp2
      go_ret
      rw [HBt.out]
      exact ⟨rfl, (HT.out.alloc _).alloc _⟩
    · have e1' : (k % 255 == 0) = false := by simpa using e1
      have HBt : Hid (B = false) := by show _ = _; rw [← HB.out, ← Bool.not_eq_true, whole_iff]; rintro ⟨_, q⟩; omega
      clear hr0 hr1
      go_wp2_with fail
      refine (mod_x h k 0 _ (Or.inl rfl) h0 h1 k0 k1).mono ?_
      rintro e w2 ⟨rfl, rfl⟩
      go_wp2_with fail
      refine (mod_x h k 1 _ (Or.inr rfl) h0 h1 k0 k1).mono ?_
      rintro e w2 ⟨rfl, rfl⟩
      go_wp2
      go_ret
      rw [HBt.out]
      exact ⟨rfl, (HT.out.alloc _).alloc _⟩
  · have e0' : (h % 255 == 0) = false := by simpa using e0
    have HBt : Hid (B = false) := by show _ = _; rw [← HB.out, ← Bool.not_eq_true, whole_iff]; rintro ⟨q, _⟩; omega
    clear hr0 hr1
    go_wp2_with fail
    refine (mod_x h k 0 _ (Or.inl rfl) h0 h1 k0 k1).mono ?_
    rintro e w2 ⟨rfl, rfl⟩
    go_wp2
    go_ret
    rw [HBt.out]
    exact ⟨rfl, HT.out.alloc _⟩
end Go.Proofs.Ytfdpmlogieaiaaa
