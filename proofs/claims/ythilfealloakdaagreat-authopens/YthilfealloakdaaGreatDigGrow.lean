/- Contract: take, the whole blocks of a row gone through. -/
import Derived.Test.YthilfealloakdaaGreatDigMix
import Derived.Test.YthilfealloakdaaGreatCutB
import Derived.Deep.LoopGhost
import Derived.Test.YthilfealloakdaaGreatDigBuf
import Derived.Lib.AppendZerosOnto
import Derived.Lib.Walk
namespace Go.Proofs.YthilfealloakdaaGreat
open Go.RowKit
set_option linter.unusedVariables false
set_option maxRecDepth 100000

theorem blocksN_step (m : Nat) (q : Q4) (ns : List Nat) : blocksN (m + 1) q ns = blockN (blocksN m q ns) (ns.drop (64 * m)) := by
  rw [blocksN_add m 1]
  rfl
theorem blocksN_ok {q : Q4} (h : q.ok) (ns : List Nat) : ∀ m, (blocksN m q ns).ok
  | 0 => h
  | m + 1 => by rw [blocksN_step]; exact blockN_ok _ _
/-- Where the row lies is not the mill's block. -/
def Apart (v : Value) (g : Nat) : Prop := ∀ k, v.ownBlock = some k → k ≠ g
/-- m blocks are gone through, the rest stands ahead. -/
def TkR (w0 : World) (g : Nat) (q : Q4) (ns : List Nat) (k : Nat) (s : Value) (wr : World) : Prop :=
  ∃ m : Nat, 64 * m + k = ns.length ∧ ArgAt w0 s (natB (ns.drop (64 * m))) ∧ (0 < (ns.drop (64 * m)).length → Apart s g) ∧ Mill wr g (blocksN m q ns) ∧ Touch (fun j => j = g) w0 wr
theorem ArgAt.apart {w w' : World} {v : Value} {rs : List Int} {g : Nat} (h : ArgAt w v rs) (ha : Apart v g) (t : Touch (fun j => j = g) w w') : ArgAt w' v rs := by
  rcases h with h | ⟨ad, c, rfl, h1, h2, h3⟩
  · exact Or.inl h
  · refine Or.inr ⟨ad, c, rfl, h1, h2, fun j u hj => ?_⟩
    have hc := h3 j u hj
    exact (t.cell (lt_of_cellA hc) (by rw [add_block]; exact ha _ rfl)).trans hc

set_option maxHeartbeats 2000000 in
theorem take_any (g : Nat) (q : Q4) (v : Value) (ns : List Nat) (w : World) (hq : q.ok) (hM : Mill w g q) (hv : ArgAt w v (natB ns)) (ha : 0 < ns.length → Apart v g) (hby : ∀ x ∈ ns, x < 256) (hl : ns.length ≤ 1099511627776) :
    Calls Tryz.prog 157 #[.pointer (some ⟨g, 0, none⟩), v] w fun e w' => e = .returned (.tuple #[]) ∧ Mill w' g (blocksN (ns.length / 64) q ns) ∧ Touch (fun j => j = g) w w' := by
  have HQ : Hid q.ok := hq
  have HBy : Hid (∀ x ∈ ns, x < 256) := hby
  have HR : Hid (TkR w g q ns ns.length v w) := ⟨0, by omega, hv, ha, hM, Touch.refl _ _⟩
  clear hM hv ha hby hq
  go_enter Tryz.func157, Tryz.ntmps157
  go_wp2_with fail
  go_loopg [1] ns.length (fun k s wx => TkR w g q ns k s wx)
  case atStart => exact HR.out
  case round =>
    clear HR
    obtain ⟨m, hm, hs, ha, hM, t⟩ := hrel
    obtain ⟨sa, sc, hform, -⟩ := hs.form
    subst hform
    obtain ⟨rest, hrest⟩ : ∃ rest, rest = ns.drop (64 * m) := ⟨_, rfl⟩
    have hrl : rest.length = ns.length - 64 * m := by rw [hrest]; simp
    have HRest : Hid (rest = ns.drop (64 * m)) := hrest
    rw [← hrest] at hs ha ⊢
    rw [length_natB] at hs ha ⊢
    have HA : Hid (0 < rest.length → Apart (.slice sa rest.length sc) g) := ha
    have HS : Hid (ArgAt w (.slice sa rest.length sc) (natB rest)) := hs
    have HM : Hid (Mill wr g (blocksN m q ns)) := hM
    have HT : Hid (Touch (fun j => j = g) w wr) := t
    clear hrest hs ha hM t
    by_cases hlt : 64 ≤ rest.length
    · have hbr : ∀ x ∈ rest, x < 256 := fun x hx => HBy.out x (by rw [HRest.out] at hx; exact List.mem_of_mem_drop hx)
      have hs' := HS.out.row (by rw [length_natB]; omega)
      obtain ⟨ga, oa, rfl⟩ := rowAt_some hs' (by omega)
      obtain ⟨-, hc1, hc2⟩ := cap_of hs'
      have hrw : RowAt wr (.slice (some ⟨ga, oa, none⟩) (natB rest).length sc) (natB rest) := by
        have := (HS.out.apart (HA.out (by omega)) HT.out).row (by rw [length_natB]; omega)
        rw [length_natB]
        exact this
      have HN := numbers_any ga oa sc rest wr hrw hbr hlt (by omega)
      rw [length_natB] at HN
      have HX : Hid (∀ w', Touch (fun _ => False) wr w' → Calls Tryz.prog 183 #[.pointer (some ⟨g, 0, none⟩), .agg (numsV (wordsN rest)).toArray] w' fun e w'' => e = .returned (.tuple #[]) ∧ Mill w'' g (blockN (blocksN m q ns) rest) ∧ Touch (fun j => j = g) w' w'') :=
        fun w' t' => mix_any g (blocksN m q ns) rest w' (blocksN_ok HQ.out ns m) (HM.out.keep t') hbr
      have HE : Hid (∀ wx, Mill wx g (blockN (blocksN m q ns) rest) → Touch (fun j => j = g) w wx → ∀ s, ArgAt w s (natB (rest.drop 64)) → Apart s g → TkR w g q ns (rest.length - 64) s wx) := by
        intro wx hMx tx s hsx hax
        refine ⟨m + 1, by omega, ?_, fun _ => hax, ?_, tx⟩
        · rw [HRest.out, List.drop_drop] at hsx
          rw [show 64 * (m + 1) = 64 * m + 64 by omega]
          exact hsx
        · rw [blocksN_step, ← HRest.out]
          exact hMx
      have hlt' : (64 : Int) ≤ (rest.length : Int) := by omega
      have hcap' : (rest.length : Int) ≤ (sc : Int) := by omega
      unfold maxLen at hc2
      have HDr : Hid (RowAt w (.slice (some ⟨ga, oa + 64, none⟩) (rest.length - 64) (sc - 64)) (natB (rest.drop 64))) := by
        rw [natB_drop]
        exact drop_row hs' 64 hlt
      have HAp : Hid (ga ≠ g) := HA.out (by omega) ga rfl
      have HTm : Hid (∀ a b, Touch (fun _ => False) wr a → Touch (fun j => j = g) a b → Touch (fun j => j = g) w b) := fun a b h1 h2 => HT.out.trans ((h1.mono (fun _ _ h => h.elim)).trans h2)
      have HGk : Hid (gk = rest.length) := by show gk = _; omega
      clear hs' hrw hbr HS HM HBy HQ HRest HA hm hrl
      by_cases hz : sc = 64
      · have hr64 : rest.length = 64 := by omega
        have HR0 : Hid (rest.drop 64 = []) := List.drop_eq_nil_of_le (by omega)
        subst hz
        rw [hr64] at HN HE HDr HGk hlt hlt' hcap' hc1 ⊢
        clear hr64 hlt hlt' hcap' hc1
        go_wp2_with fail
        refine HN.mono ?_
        rintro e w1 ⟨rfl, t1⟩
        have HX1 := HX.out w1 t1
        have HT1 : Hid (Touch (fun _ => False) wr w1) := t1
        clear HN t1
        generalize (numsV (wordsN rest)).toArray = O at HX1 ⊢
        go_wp2_with fail
        refine HX1.mono ?_
        rintro e w2 ⟨rfl, hM2, t2⟩
        have HN2 : Hid (TkR w g q ns 0 (.slice (some ⟨ga, oa, none⟩) 0 0) w2) := HE.out w2 hM2 (HTm.out _ _ HT1.out t2) _ (by rw [HR0.out]; exact empty_arg w _ 0 (by simp [maxLen])) (fun k hk => by cases hk; exact HAp.out)
        clear HX1 hM2 t2
        go_wp2_with fail
        go_roundg 0
        case measure => have := HGk.out; omega
        case rel => exact HN2.out
      · go_wp2_with fail
        refine HN.mono ?_
        rintro e w1 ⟨rfl, t1⟩
        have HX1 := HX.out w1 t1
        have HT1 : Hid (Touch (fun _ => False) wr w1) := t1
        clear HN t1
        generalize (numsV (wordsN rest)).toArray = O at HX1 ⊢
        go_wp2_with fail
        refine HX1.mono ?_
        rintro e w2 ⟨rfl, hM2, t2⟩
        have HN2 : Hid (TkR w g q ns (rest.length - 64) (.slice (some ⟨ga, oa + 64, none⟩) (rest.length - 64) (sc - 64)) w2) := HE.out w2 hM2 (HTm.out _ _ HT1.out t2) _ HDr.out.arg (fun k hk => by cases hk; exact HAp.out)
        clear HX1 hM2 t2
        go_wp2_with fail
        go_roundg (rest.length - 64)
        case measure => have := HGk.out; omega
        case rel => exact HN2.out
    · have hm' : Hid (m = ns.length / 64) := by show m = _; omega
      have hlt' : ¬ (64 : Int) ≤ (rest.length : Int) := by omega
      go_wp2_with fail
      go_end0
      refine ⟨rfl, ?_, HT.out⟩
      rw [← hm'.out]
      exact HM.out
end Go.Proofs.YthilfealloakdaaGreat

namespace Go.Proofs.YthilfealloakdaaGreat
open Go.RowKit
set_option linter.unusedVariables false
set_option maxRecDepth 100000

set_option maxHeartbeats 1000000 in
theorem grow_any (n : Nat) (w : World) (hn : n ≤ 1099511627776) : Calls Tryz.prog 179 #[.slice none 0 0, .int .i64 (n : Int)] w fun e w' => ∃ v', e = .returned v' ∧ Buf w w' v' [] := by
  obtain ⟨i0, hi, hz0, hz1, hz2⟩ := info_parts Tryz.info5w
  by_cases h0 : n = 0
  · subst h0
    go_enter Tryz.func179, Tryz.ntmps179
    go_wp2
    go_ret
    exact ⟨_, rfl, Buf.nil (Touch.refl _ w)⟩
  · have h1 : ¬ ((n : Int) < 0) := by omega
    have h4 : (n : Int) > 0 := by omega
    have hold : (Builtin.firstCells i0.size 0 (.slice none 0 0)).run Tryz.prog w.drew = .ok ([] : List Value).toArray w.drew := by
      simp [Builtin.firstCells]
    have hrz := fun ty => Lib.run_append_grow_zeros (P := Tryz.prog) w 22 3 ty 5 i0 (.int .u8 0) .i64 .i64 Tryz.underlying22 Tryz.underlying3 hi hz0 none 0 0 [] hold n (by omega) (by omega) (by omega) (by omega) (by rw [hz2]; omega) (growslice_fits (by omega) (by rw [hz2]; omega))
    have hGn : n ≤ grownCap w n 0 5 := grownCap_ge w _ _ _
    have hGm : grownCap w n 0 5 ≤ maxLen := grownCap_le_maxLen w n 0 5 (by unfold maxLen; omega)
    simp only [Nat.zero_add] at hrz
    generalize grownCap w n 0 5 = G at hrz hGn hGm
    have hG63 : G ≤ 9223372036854775807 := by unfold maxLen at hGm; omega
    have HB : Hid (Buf w (w.drew.alloc (Obj.cells (([] : List Value).toArray ++ Builtin.zeroCells (Value.int IntKind.u8 0).cells n ++ Builtin.zeroCells (Value.int IntKind.u8 0).cells (G - n)) 5)) (.slice (some ⟨w.heap.size, 0, none⟩) 0 G) []) := by
      refine ⟨⟨rfl, Or.inr ⟨w.heap.size, G, _, rfl, Nat.le_refl _, heap_alloc_new w.drew _, Nat.zero_le _, hGm, ?_, by simp [bytesOf]⟩⟩, ((Touch.refl _ w).drew).alloc _⟩
      simp only [Array.size_append, size_zeroCells]
      simp [Value.cells]
      omega
    generalize hw : (w.drew.alloc (Obj.cells (([] : List Value).toArray ++ Builtin.zeroCells (Value.int IntKind.u8 0).cells n ++ Builtin.zeroCells (Value.int IntKind.u8 0).cells (G - n)) 5)) = wz at hrz HB
    clear hold hw hi hz0 hz1 hz2 hGm
    go_enter Tryz.func179, Tryz.ntmps179
    go_wp2_with (at_builtin; refine Lib.wpList_append_run _ rfl _ _ _ _ rfl _ _ rfl rfl _ _ (hrz _) ?_)
    all_goals (go_ret; exact ⟨_, rfl, HB.out⟩)

def CcA (n1 n2 : Nat) (s i : Value) : Prop := ∃ k : Nat, k ≤ 2 ∧ i = .int .i64 (k : Int) ∧ s = .int .i64 ((if k = 0 then 0 else if k = 1 then n1 else n1 + n2 : Nat) : Int)
def CcB (w0 : World) (r1 r2 : List Int) (p i : Value) (wr : World) : Prop := ∃ k : Nat, k ≤ 2 ∧ i = .int .i64 (k : Int) ∧ Buf w0 wr p (if k = 0 then [] else if k = 1 then r1 else r1 ++ r2)
set_option maxHeartbeats 1000000 in
theorem concat_any (gp : Nat) (v1 v2 : Value) (r1 r2 : List Int) (w : World) (c1 : w.cell? ⟨gp, 0, none⟩ = some v1) (c2 : w.cell? ⟨gp, 1, none⟩ = some v2) (h1 : ArgAt w v1 r1) (h2 : ArgAt w v2 r2) (hl1 : r1.length ≤ 1073741824) (hl2 : r2.length ≤ 1073741824) :
    Calls Tryz.prog 152 #[.slice (some ⟨gp, 0, none⟩) 2 2] w fun e w' => ∃ v', e = .returned v' ∧ Buf w w' v' (r1 ++ r2) := by
  obtain ⟨a1, k1, rfl, _⟩ := h1.form
  obtain ⟨a2, k2, rfl, _⟩ := h2.form
  have H1 : Hid (ArgAt w (.slice a1 r1.length k1) r1) := h1
  have H2 : Hid (ArgAt w (.slice a2 r2.length k2) r2) := h2
  clear h1 h2
  go_enter Tryz.func152, Tryz.ntmps152
  go_wp2_with fail
  go_loop [3, 11] (fun s i => CcA r1.length r2.length s i) (fun _ i => 2 - (intOf i).toNat)
  case atStart => exact ⟨0, by omega, rfl, rfl⟩
  case round =>
    obtain ⟨k, hk, rfl, rfl⟩ := hrel
    match k, hk with
    | 0, _ =>
      simp only [reduceIte]
      go_wp2_with fail
      go_round
      case rel => exact ⟨1, by omega, rfl, by simp⟩
      case measure => simp [intOf]
    | 1, _ =>
      simp only [reduceIte, Nat.reduceEqDiff]
      go_wp2_with fail
      go_round
      case rel => exact ⟨2, by omega, rfl, by simp⟩
      case measure => simp [intOf]
    | 2, _ =>
      simp only [reduceIte, Nat.reduceEqDiff]
      have HG := grow_any (r1.length + r2.length) w (by omega)
      go_wp2_with (first | refine HG.mono ?_; rintro e w1 ⟨p, rfl, hb⟩)
      have HB0 : Hid (CcB w r1 r2 p (.int .i64 ((0 : Nat) : Int)) w1) := ⟨0, by omega, rfl, hb⟩
      clear hb HG
      go_wp2_with fail
      go_loopw [6, 27] (fun p i wr => CcB w r1 r2 p i wr) (fun _ i _ => 2 - (intOf i).toNat)
      case atStart => exact HB0.out
      case round =>
        clear HB0
        obtain ⟨k, hk, rfl, hb⟩ := hrel
        have HT : Hid (Touch (fun _ => False) w wr) := hb.t
        match k, hk with
        | 0, _ =>
          simp only [reduceIte] at hb
          have d1 := HT.out.cellN c1
          go_wp2_with (at_builtin; refine app_arg rfl (.tmp 31) (.tmp 32) rfl w _ [] rfl hb _ r1 rfl (H1.out.keep HT.out (fun _ _ h => h)) (by simp; omega) ?_; intro v' w' hb')
          go_roundw
          case rel => exact ⟨1, by omega, rfl, hb'⟩
          case measure => simp [intOf]
        | 1, _ =>
          simp only [reduceIte, Nat.reduceEqDiff] at hb
          have d1 := HT.out.cellN c2
          go_wp2_with (at_builtin; refine app_arg rfl (.tmp 31) (.tmp 32) rfl w _ r1 rfl hb _ r2 rfl (H2.out.keep HT.out (fun _ _ h => h)) (by omega) ?_; intro v' w' hb')
          go_roundw
          case rel => exact ⟨2, by omega, rfl, hb'⟩
          case measure => simp [intOf]
        | 2, _ =>
          simp only [reduceIte, Nat.reduceEqDiff] at hb
          go_wp2_with fail
          go_ret
          exact ⟨_, rfl, hb⟩
        | n + 3, h => omega
    | n + 3, h => omega
end Go.Proofs.YthilfealloakdaaGreat
