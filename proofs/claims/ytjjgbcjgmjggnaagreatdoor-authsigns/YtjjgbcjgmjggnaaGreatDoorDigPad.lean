/- Contract: take, the whole blocks of a row gone through. -/
import Derived.Test.YtjjgbcjgmjggnaaGreatDoorDigMix
import Derived.Test.YtjjgbcjgmjggnaaGreatDoorHeadV
import Derived.Deep.LoopGhost
import Derived.Test.YtjjgbcjgmjggnaaGreatDoorSumWords3
import Derived.Test.YtjjgbcjgmjggnaaGreatDoorDigRow
namespace Go.Proofs.YtjjgbcjgmjggnaaGreatDoor
open Go.RowKit
set_option linter.unusedVariables false
set_option maxRecDepth 100000

theorem blocksN_step (m : Nat) (q : Q4) (ns : List Nat) : blocksN (m + 1) q ns = blockN (blocksN m q ns) (ns.drop (64 * m)) := by
  rw [blocksN_add m 1]
  rfl
theorem blocksN_ok {q : Q4} (h : q.ok) (ns : List Nat) : ∀ m, (blocksN m q ns).ok
  | 0 => h
  | m + 1 => by rw [blocksN_step]; exact blockN_ok _ _
/-- Where the row lies is not the mill's block. -/
def Apart (v : Value) (g : Nat) : Prop := ∀ k, v.ownBlock = some k → k ≠ g
/-- m blocks are gone through, the rest stands ahead. -/
def TkR (w0 : World) (g : Nat) (q : Q4) (ns : List Nat) (k : Nat) (s : Value) (wr : World) : Prop :=
  ∃ m : Nat, 64 * m + k = ns.length ∧ ArgAt w0 s (natB (ns.drop (64 * m))) ∧ (0 < (ns.drop (64 * m)).length → Apart s g) ∧ Mill wr g (blocksN m q ns) ∧ Touch (fun j => j = g) w0 wr
theorem ArgAt.apart {w w' : World} {v : Value} {rs : List Int} {g : Nat} (h : ArgAt w v rs) (ha : Apart v g) (t : Touch (fun j => j = g) w w') : ArgAt w' v rs := by
  rcases h with h | ⟨ad, c, rfl, h1, h2, h3⟩
  · exact Or.inl h
  · refine Or.inr ⟨ad, c, rfl, h1, h2, fun j u hj => ?_⟩
    have hc := h3 j u hj
    exact (t.cell (lt_of_cellA hc) (by rw [add_block]; exact ha _ rfl)).trans hc

set_option maxHeartbeats 2000000 in
theorem take_any (g : Nat) (q : Q4) (v : Value) (ns : List Nat) (w : World) (hq : q.ok) (hM : Mill w g q) (hv : ArgAt w v (natB ns)) (ha : 0 < ns.length → Apart v g) (hby : ∀ x ∈ ns, x < 256) (hl : ns.length ≤ 1099511627776) :
    Calls Tryz.prog 120 #[.pointer (some ⟨g, 0, none⟩), v] w fun e w' => e = .returned (.tuple #[]) ∧ Mill w' g (blocksN (ns.length / 64) q ns) ∧ Touch (fun j => j = g) w w' := by
  have HQ : Hid q.ok := hq
  have HBy : Hid (∀ x ∈ ns, x < 256) := hby
  have HR : Hid (TkR w g q ns ns.length v w) := ⟨0, by omega, hv, ha, hM, Touch.refl _ _⟩
  clear hM hv ha hby hq
  go_enter Tryz.func120, Tryz.ntmps120
  go_wp2_with fail
  go_loopg [1] ns.length (fun k s wx => TkR w g q ns k s wx)
  case atStart => exact HR.out
  case round =>
    clear HR
    obtain ⟨m, hm, hs, ha, hM, t⟩ := hrel
    obtain ⟨sa, sc, hform, -⟩ := hs.form
    subst hform
    obtain ⟨rest, hrest⟩ : ∃ rest, rest = ns.drop (64 * m) := ⟨_, rfl⟩
    have hrl : rest.length = ns.length - 64 * m := by rw [hrest]; simp
    have HRest : Hid (rest = ns.drop (64 * m)) := hrest
    rw [← hrest] at hs ha ⊢
    rw [length_natB] at hs ha ⊢
    have HA : Hid (0 < rest.length → Apart (.slice sa rest.length sc) g) := ha
    have HS : Hid (ArgAt w (.slice sa rest.length sc) (natB rest)) := hs
    have HM : Hid (Mill wr g (blocksN m q ns)) := hM
    have HT : Hid (Touch (fun j => j = g) w wr) := t
    clear hrest hs ha hM t
    by_cases hlt : 64 ≤ rest.length
    · have hbr : ∀ x ∈ rest, x < 256 := fun x hx => HBy.out x (by rw [HRest.out] at hx; exact List.mem_of_mem_drop hx)
      have hs' := HS.out.row (by rw [length_natB]; omega)
      obtain ⟨ga, oa, rfl⟩ := rowAt_some hs' (by omega)
      obtain ⟨-, hc1, hc2⟩ := cap_of hs'
      have hrw : RowAt wr (.slice (some ⟨ga, oa, none⟩) (natB rest).length sc) (natB rest) := by
        have := (HS.out.apart (HA.out (by omega)) HT.out).row (by rw [length_natB]; omega)
        rw [length_natB]
        exact this
      have HN := numbers_any ga oa sc rest wr hrw hbr hlt (by omega)
      rw [length_natB] at HN
      have HX : Hid (∀ w', Touch (fun _ => False) wr w' → Calls Tryz.prog 136 #[.pointer (some ⟨g, 0, none⟩), .agg (numsV (wordsN rest)).toArray] w' fun e w'' => e = .returned (.tuple #[]) ∧ Mill w'' g (blockN (blocksN m q ns) rest) ∧ Touch (fun j => j = g) w' w'') :=
        fun w' t' => mix_any g (blocksN m q ns) rest w' (blocksN_ok HQ.out ns m) (HM.out.keep t') hbr
      have HE : Hid (∀ wx, Mill wx g (blockN (blocksN m q ns) rest) → Touch (fun j => j = g) w wx → ∀ s, ArgAt w s (natB (rest.drop 64)) → Apart s g → TkR w g q ns (rest.length - 64) s wx) := by
        intro wx hMx tx s hsx hax
        refine ⟨m + 1, by omega, ?_, fun _ => hax, ?_, tx⟩
        · rw [HRest.out, List.drop_drop] at hsx
          rw [show 64 * (m + 1) = 64 * m + 64 by omega]
          exact hsx
        · rw [blocksN_step, ← HRest.out]
          exact hMx
      have hlt' : (64 : Int) ≤ (rest.length : Int) := by omega
      have hcap' : (rest.length : Int) ≤ (sc : Int) := by omega
      unfold maxLen at hc2
      have HDr : Hid (RowAt w (.slice (some ⟨ga, oa + 64, none⟩) (rest.length - 64) (sc - 64)) (natB (rest.drop 64))) := by
        rw [natB_drop]
        exact drop_row hs' 64 hlt
      have HAp : Hid (ga ≠ g) := HA.out (by omega) ga rfl
      have HTm : Hid (∀ a b, Touch (fun _ => False) wr a → Touch (fun j => j = g) a b → Touch (fun j => j = g) w b) := fun a b h1 h2 => HT.out.trans ((h1.mono (fun _ _ h => h.elim)).trans h2)
      have HGk : Hid (gk = rest.length) := by show gk = _; omega
      clear hs' hrw hbr HS HM HBy HQ HRest HA hm hrl
      by_cases hz : sc = 64
      · have hr64 : rest.length = 64 := by omega
        have HR0 : Hid (rest.drop 64 = []) := List.drop_eq_nil_of_le (by omega)
        subst hz
        rw [hr64] at HN HE HDr HGk hlt hlt' hcap' hc1 ⊢
        clear hr64 hlt hlt' hcap' hc1
        go_wp2_with fail
        refine HN.mono ?_
        rintro e w1 ⟨rfl, t1⟩
        have HX1 := HX.out w1 t1
        have HT1 : Hid (Touch (fun _ => False) wr w1) := t1
        clear HN t1
        generalize (numsV (wordsN rest)).toArray = O at HX1 ⊢
        go_wp2_with fail
        refine HX1.mono ?_
        rintro e w2 ⟨rfl, hM2, t2⟩
        have HN2 : Hid (TkR w g q ns 0 (.slice (some ⟨ga, oa, none⟩) 0 0) w2) := HE.out w2 hM2 (HTm.out _ _ HT1.out t2) _ (by rw [HR0.out]; exact empty_arg w _ 0 (by simp [maxLen])) (fun k hk => by cases hk; exact HAp.out)
        clear HX1 hM2 t2
        go_wp2_with fail
        go_roundg 0
        case measure => have := HGk.out; omega
        case rel => exact HN2.out
      · go_wp2_with fail
        refine HN.mono ?_
        rintro e w1 ⟨rfl, t1⟩
        have HX1 := HX.out w1 t1
        have HT1 : Hid (Touch (fun _ => False) wr w1) := t1
        clear HN t1
        generalize (numsV (wordsN rest)).toArray = O at HX1 ⊢
        go_wp2_with fail
        refine HX1.mono ?_
        rintro e w2 ⟨rfl, hM2, t2⟩
        have HN2 : Hid (TkR w g q ns (rest.length - 64) (.slice (some ⟨ga, oa + 64, none⟩) (rest.length - 64) (sc - 64)) w2) := HE.out w2 hM2 (HTm.out _ _ HT1.out t2) _ HDr.out.arg (fun k hk => by cases hk; exact HAp.out)
        clear HX1 hM2 t2
        go_wp2_with fail
        go_roundg (rest.length - 64)
        case measure => have := HGk.out; omega
        case rel => exact HN2.out
    · have hm' : Hid (m = ns.length / 64) := by show m = _; omega
      have hlt' : ¬ (64 : Int) ≤ (rest.length : Int) := by omega
      go_wp2_with fail
      go_end0
      refine ⟨rfl, ?_, HT.out⟩
      rw [← hm'.out]
      exact HM.out
end Go.Proofs.YtjjgbcjgmjggnaaGreatDoor

namespace Go.Proofs.YtjjgbcjgmjggnaaGreatDoor
open Go.RowKit
set_option linter.unusedVariables false
set_option maxRecDepth 100000

/-- The padded bytes of l, n being told at the end. -/
def padX (l : List Nat) (n : Nat) : List Nat := l ++ 128 :: (List.replicate (gapN l.length) 0 ++ lowN (8 * n) 8)
theorem gap_lt (n : Nat) : gapN n < 64 := Nat.mod_lt _ (by decide)
theorem gap_end (n : Nat) : (n + 1 + gapN n) % 64 = 56 := by unfold gapN; omega
theorem gap_not {n z : Nat} (h : z < gapN n) : (n + 1 + z) % 64 ≠ 56 := by unfold gapN at h; omega
theorem lowN_at (m K k : Nat) (h : k < K) : (lowN m K)[k]? = some (m / 2 ^ (8 * k) % 256) := by
  induction K generalizing m k with
  | zero => omega
  | succ K ih =>
    cases k with
    | zero => simp [lowN]
    | succ k =>
      simp only [lowN, List.getElem?_cons_succ]
      rw [ih _ _ (by omega), Nat.div_div_eq_div_mul, show 256 * 2 ^ (8 * k) = 2 ^ (8 * (k + 1)) by rw [show 8 * (k + 1) = 8 * k + 8 by omega, Nat.pow_add]; omega]
theorem lowN_take (m K k : Nat) (h : k < K) : (lowN m K).take (k + 1) = (lowN m K).take k ++ [m / 2 ^ (8 * k) % 256] := by
  rw [List.take_add_one, lowN_at m K k h]
  rfl
theorem natB_one (l : List Nat) (x : Nat) : natB l ++ [(x : Int)] = natB (l ++ [x]) := by simp [natB]

def PdZ (w0 : World) (l : List Nat) (g : Nat) (p : Value) (wr : World) : Prop := ∃ z : Nat, z + g = gapN l.length ∧ Buf w0 wr p (natB (l ++ 128 :: List.replicate z 0))
def PdE (w0 : World) (l : List Nat) (m : Nat) (p i : Value) (wr : World) : Prop := ∃ k : Nat, k ≤ 8 ∧ i = .int .i64 (k : Int) ∧ Buf w0 wr p (natB (l ++ 128 :: (List.replicate (gapN l.length) 0 ++ (lowN m 8).take k)))
theorem PdZ.next {w0 : World} {l : List Nat} {z : Nat} : natB (l ++ 128 :: List.replicate z 0) ++ [(0 : Int)] = natB (l ++ 128 :: List.replicate (z + 1) 0) := by
  rw [show (0 : Int) = ((0 : Nat) : Int) from rfl, natB_one]
  rw [List.replicate_succ', List.append_assoc]
  rfl
theorem PdE.next {l Z : List Nat} {m k : Nat} (h : k < 8) : natB (l ++ 128 :: (Z ++ (lowN m 8).take k)) ++ [((m / 2 ^ (8 * k) % 256 : Nat) : Int)] = natB (l ++ 128 :: (Z ++ (lowN m 8).take (k + 1))) := by
  rw [natB_one, lowN_take m 8 k h]
  simp
theorem length_natZ (l : List Nat) (z : Nat) : (natB (l ++ 128 :: List.replicate z 0)).length = l.length + 1 + z := by simp [natB]; omega
theorem length_natE (l : List Nat) (m k z : Nat) : (natB (l ++ 128 :: (List.replicate z 0 ++ (lowN m 8).take k))).length ≤ l.length + 1 + z + 8 := by simp [natB, length_lowN]; omega

set_option maxHeartbeats 2000000 in
theorem pad_any (v1 v2 : Value) (r1 r2 : List Nat) (n : Nat) (w : World) (h1 : ArgAt w v1 (natB r1)) (h2 : ArgAt w v2 (natB r2)) (hl1 : r1.length ≤ 1073741824) (hl2 : r2.length ≤ 16) (hn : n ≤ 1099511627776) :
    Calls Tryz.prog 121 #[v1, v2, .int .i64 (n : Int)] w fun e w' => ∃ v', e = .returned v' ∧ Buf w w' v' (natB (padX (r1 ++ r2) n)) := by
  obtain ⟨a1, k1, rfl, _⟩ := h1.form
  obtain ⟨a2, k2, rfl, _⟩ := h2.form
  have H1 : Hid (ArgAt w (.slice a1 (natB r1).length k1) (natB r1)) := h1
  have H2 : Hid (ArgAt w (.slice a2 (natB r2).length k2) (natB r2)) := h2
  clear h1 h2
  obtain ⟨l, hl⟩ : ∃ l, l = r1 ++ r2 := ⟨_, rfl⟩
  have HL : Hid (l = r1 ++ r2) := hl
  have hll : l.length ≤ 1073741840 := by rw [hl]; simp; omega
  rw [← hl]
  clear hl
  go_enter Tryz.func121, Tryz.ntmps121
  go_wp2_with fail
  generalize hw1 : World.alloc w _ = w1
  have HT1 : Hid (Touch (fun _ => False) w w1) := by subst hw1; exact (Touch.refl _ w).alloc _
  have d1 : w1.cell? ⟨w.heap.size, 0, none⟩ = some (.slice a1 (natB r1).length k1) := by subst hw1; simp
  have d2 : w1.cell? ⟨w.heap.size, 1, none⟩ = some (.slice a2 (natB r2).length k2) := by subst hw1; simp
  have HC := concat_any w.heap.size _ _ (natB r1) (natB r2) w1 d1 d2 (H1.out.keep HT1.out (fun _ _ h => h)) (H2.out.keep HT1.out (fun _ _ h => h)) (by rw [length_natB]; exact hl1) (by rw [length_natB]; omega)
  clear hw1 d1 d2
  refine HC.mono ?_
  rintro e w2 ⟨p, rfl, hb⟩
  have HB : Hid (Buf w w2 p (natB l)) := by
    have := hb.back HT1.out
    rw [← natB_append, ← HL.out] at this
    exact this
  clear HC hb
  go_wp2_with (at_builtin; refine app_one rfl (.tmp 13) (.tmp 14) rfl w _ (natB l) rfl HB.out 128 rfl (by rw [length_natB]; omega) ?_; intro p3 w3 hb3)
  have HZ : Hid (PdZ w l (gapN l.length) p3 w3) := ⟨0, by omega, by simpa [natB] using hb3⟩
  clear hb3 HB
  go_wp2_with fail
  go_loopg [7] (gapN l.length) (fun g p wx => PdZ w l g p wx)
  case atStart => exact HZ.out
  case round =>
    clear HZ
    obtain ⟨z, hz, hb⟩ := hrel
    have hlen := length_natZ l z
    obtain ⟨pa, pc, hp⟩ := hb.form
    subst hp
    have HB : Hid (Buf w wr (.slice pa (natB (l ++ 128 :: List.replicate z 0)).length pc) (natB (l ++ 128 :: List.replicate z 0))) := hb
    clear hb
    have HLn : Hid ((natB (l ++ 128 :: List.replicate z 0)).length = l.length + 1 + z) := hlen
    generalize hLL : (natB (l ++ 128 :: List.replicate z 0)).length = L at hlen HB ⊢
    have HLL : Hid ((natB (l ++ 128 :: List.replicate z 0)).length = L) := hLL
    have hLb := gap_lt l.length
    clear hLL
    by_cases hlt : z < gapN l.length
    · have hne := gap_not hlt
      rw [← hlen] at hne
      have hne' : ((L : Int) % 64 == 56) = false := by simp; omega
      clear hne
      go_wp2_with (at_builtin; refine app_one rfl (.tmp 20) (.tmp 21) rfl w _ _ rfl HB.out 0 rfl (by rw [HLL.out]; omega) ?_; intro p4 w4 hb4)
      go_roundg (gapN l.length - (z + 1))
      case measure => omega
      case rel => exact ⟨z + 1, by omega, by rw [PdZ.next (w0 := w)] at hb4; exact hb4⟩
    · obtain rfl : z = gapN l.length := by omega
      have heq := gap_end l.length
      rw [← hlen] at heq
      have heq' : (L : Int) % 64 = 56 := by omega
      have HE : Hid (PdE w l (8 * n) (.slice pa L pc) (.int .i64 ((0 : Nat) : Int)) wr) := ⟨0, by omega, rfl, by rw [List.take_zero, List.append_nil]; exact HB.out⟩
      clear hlen HB HLL HLn heq hlt
      go_wp2_with fail
      clear heq'
      go_loopw [7, 26] (fun p i wx => PdE w l (8 * n) p i wx) (fun _ i _ => 8 - (intOf i).toNat)
      case atStart => exact HE.out
      case round =>
        clear HE
        obtain ⟨k, hk, rfl, hb⟩ := hrel
        have HB : Hid _ := hb
        clear hb
        by_cases hk8 : k < 8
        · have hk8' : (k : Int) < 8 := by omega
          have s1 : (8 * (k : Int)).toNat = 8 * k := by omega
          have s2 : min (8 * k) 64 = 8 * k := by omega
          have s3 : (0 : Int) ≤ 8 * (k : Int) := by omega
          have HX : Hid (natB (l ++ 128 :: (List.replicate (gapN l.length) 0 ++ (lowN (8 * n) 8).take k)) ++ [((8 * n / 2 ^ (8 * k) % 256 : Nat) : Int)] = natB (l ++ 128 :: (List.replicate (gapN l.length) 0 ++ (lowN (8 * n) 8).take (k + 1)))) := PdE.next hk8
          have s4 : 8 * (n : Int) / 2 ^ (8 * k) % 256 = ((8 * n / 2 ^ (8 * k) % 256 : Nat) : Int) := by simp
          generalize 8 * n / 2 ^ (8 * k) % 256 = B at HX s4
          go_wp2_with (at_builtin; refine app_one rfl (.tmp 29) (.tmp 35) rfl w _ _ rfl HB.out (B : Int) rfl (by have := length_natE l (8 * n) k (gapN l.length); omega) ?_; intro p4 w4 hb4)
          go_roundw
          case rel => exact ⟨k + 1, by omega, by go_num, by rw [HX.out] at hb4; exact hb4⟩
          case measure => simp [intOf]; omega
        · obtain rfl : k = 8 := by omega
          have HR : Hid ((lowN (8 * n) 8).take 8 = lowN (8 * n) 8) := List.take_of_length_le (by rw [length_lowN]; omega)
          go_wp2_with fail
          go_ret
          refine ⟨_, rfl, ?_⟩
          have := HB.out
          rw [HR.out] at this
          exact this
end Go.Proofs.YtjjgbcjgmjggnaaGreatDoor
