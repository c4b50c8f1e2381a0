/- Contracts: pairOf and read by type; Decode, Check of every state. -/
import Derived.Test.YtfdpmlogieaiaaaStChkAny
import Derived.Test.YtfdpmlogieaiaaaStPairs
import Derived.Test.YtfdpmlogieaiaaaStRRtr
import Derived.Test.YtfdpmlogieaiaaaStROut
import Derived.Test.YtfdpmlogieaiaaaStROpq
namespace Go.Proofs.Ytfdpmlogieaiaaa
open Go.RowKit
set_option linter.unusedVariables false
set_option maxRecDepth 100000

/-- How a type's bodies are read. -/
structure TypeRd (t : Int) (G1 G2 : Nat) : Prop where
  p : ∀ w, Calls Try.prog 29 #[.int .u8 t] w fun e w' => e = .returned (.agg #[.func (.func G1) #[] #[], .func (.func G2) #[] #[]]) ∧ Touch (fun _ => False) w w'
  r : ∀ (v : Value) (rs : List Int) (w : World), ArgAt w v rs → (∀ z ∈ rs, 0 ≤ z ∧ z < 256) → rs.length < 65536 → Calls Try.prog 28 #[.agg #[.func (.func G1) #[] #[], .func (.func G2) #[] #[]], v] w (RdAns t rs w)
theorem known_cases {t : Int} (h : knownB t = true) : t = 1 ∨ t = 2 ∨ t = 3 ∨ t = 4 ∨ t = 5 ∨ t = 7 ∨ t = 9 ∨ t = 10 ∨ t = 11 := by
  simp [knownB] at h
  omega
theorem unknown_cases {t : Int} (h0 : 0 ≤ t) (h : knownB t = false) : t = 0 ∨ t = 6 ∨ t = 8 ∨ 12 ≤ t := by
  simp [knownB] at h
  omega
theorem typeRd_1 : TypeRd 1 64 65 :=
  ⟨pairOf_1, fun v rs w hv hby hl => read_any _ _ (fun _ _ => rfl) 1 v rs w hv hby (by omega) (fun N b w h hN => rrtr_any N b rs w h hN (by omega))⟩
theorem typeRd_2 : TypeRd 2 66 67 :=
  ⟨pairOf_2, fun v rs w hv hby hl => read_any _ _ (fun _ _ => rfl) 2 v rs w hv hby (by omega) (fun N b w h hN => rnet_any N b rs w h hN (by omega))⟩
theorem typeRd_3 : TypeRd 3 68 69 :=
  ⟨pairOf_3, fun v rs w hv hby hl => read_any _ _ (fun _ _ => rfl) 3 v rs w hv hby (by omega) (fun N b w h hN => rsum_any N b rs w h hN)⟩
theorem typeRd_4 : TypeRd 4 70 71 :=
  ⟨pairOf_4, fun v rs w hv hby hl => read_any _ _ (fun _ _ => rfl) 4 v rs w hv hby (by omega) (fun N b w h hN => rborder_any N b rs w h hN)⟩
theorem typeRd_5 : TypeRd 5 60 61 :=
  ⟨pairOf_5, fun v rs w hv hby hl => read_any _ _ (fun _ _ => rfl) 5 v rs w hv hby (by omega) (fun N b w h hN => router_any 5 (by omega) N b rs w h hN)⟩
theorem typeRd_7 : TypeRd 7 60 61 :=
  ⟨pairOf_7, fun v rs w hv hby hl => read_any _ _ (fun _ _ => rfl) 7 v rs w hv hby (by omega) (fun N b w h hN => router_any 7 (by omega) N b rs w h hN)⟩
theorem typeRd_9 : TypeRd 9 62 63 :=
  ⟨pairOf_9, fun v rs w hv hby hl => read_any _ _ (fun _ _ => rfl) 9 v rs w hv hby (by omega) (fun N b w h hN => ropaque_any 9 (by omega) N b rs w h hN (by omega))⟩
theorem typeRd_10 : TypeRd 10 62 63 :=
  ⟨pairOf_10, fun v rs w hv hby hl => read_any _ _ (fun _ _ => rfl) 10 v rs w hv hby (by omega) (fun N b w h hN => ropaque_any 10 (by omega) N b rs w h hN (by omega))⟩
theorem typeRd_11 : TypeRd 11 62 63 :=
  ⟨pairOf_11, fun v rs w hv hby hl => read_any _ _ (fun _ _ => rfl) 11 v rs w hv hby (by omega) (fun N b w h hN => ropaque_any 11 (by omega) N b rs w h hN (by omega))⟩
theorem typeRd {t : Int} (h : knownB t = true) : ∃ G1 G2, TypeRd t G1 G2 := by
  rcases known_cases h with rfl | rfl | rfl | rfl | rfl | rfl | rfl | rfl | rfl
  · exact ⟨_, _, typeRd_1⟩
  · exact ⟨_, _, typeRd_2⟩
  · exact ⟨_, _, typeRd_3⟩
  · exact ⟨_, _, typeRd_4⟩
  · exact ⟨_, _, typeRd_5⟩
  · exact ⟨_, _, typeRd_7⟩
  · exact ⟨_, _, typeRd_9⟩
  · exact ⟨_, _, typeRd_10⟩
  · exact ⟨_, _, typeRd_11⟩
theorem typeNone {t : Int} (h0 : 0 ≤ t) (h1 : t < 256) (h : knownB t = false) (w : World) : Calls Try.prog 29 #[.int .u8 t] w fun e w' => e = .panicked (flawC 21) ∧ Touch (fun _ => False) w w' := by
  rcases unknown_cases h0 h with rfl | rfl | rfl | h
  · exact pairOf_0 w
  · exact pairOf_6 w
  · exact pairOf_8 w
  · exact pairOf_over t h h1 w
/-- What Decode tells of a state that it refuses. -/
def decE (h : HV) (rs : List Int) : Int := if h.len ≠ 20 + (rs.length : Int) then 22 else if knownB h.typ = false then 21 else if decB h.typ rs = none then 28 else 0
theorem decode_good (h : HV) (ok : h.All) (v : Value) (rs : List Int) (w : World) (B : BV) (hv : ArgAt w v rs) (hby : ∀ z ∈ rs, 0 ≤ z ∧ z < 256) (hlen : h.len = 20 + (rs.length : Int)) (hk : knownB h.typ = true) (hB : decB h.typ rs = some B) :
    Calls Try.prog 9 #[h.sv v] w fun e w' => ∃ vl vr vd, e = .returned (.tuple #[B.v vl vr vd, .int .i64 0]) ∧ BOwn w.heap.size w' B vl vr vd ∧ Touch (fun _ => False) w w' := by
  obtain ⟨G1, G2, T⟩ := typeRd hk
  obtain ⟨a, c, rfl, hm⟩ := hv.form
  have hl := ok.l
  exact decode_yes h a rs.length c rs w B hB (fun w' t S => dec1_any w.heap.size h a rs.length c G1 G2 rs w' S ok.l (by omega) hlen T.p (fun w'' t' => T.r _ rs w'' ((hv.keepN t).keepN t') hby (by omega)))
theorem decode_bad (h : HV) (ok : h.All) (v : Value) (rs : List Int) (w : World) (hv : ArgAt w v rs) (hby : ∀ z ∈ rs, 0 ≤ z ∧ z < 256) (hn : rs.length ≤ 140737488355328) (he : decE h rs ≠ 0) :
    Calls Try.prog 9 #[h.sv v] w fun e w' => e = .returned (.tuple #[.agg #[.int .u8 0, .slice none 0 0, .int .u32 0, .slice none 0 0, .int .u32 0, .bool false, .int .u32 0, .int .u32 0, .slice none 0 0], .int .i64 (decE h rs)]) ∧ Touch (fun _ => False) w w' := by
  obtain ⟨a, c, rfl, hm⟩ := hv.form
  have hl := ok.l
  by_cases h1 : h.len = 20 + (rs.length : Int)
  · cases hk : knownB h.typ with
    | false =>
      have e : decE h rs = 21 := by simp [decE, h1, hk]
      rw [e]
      exact decode_no h a rs.length c 21 w (fun w' t S => dec1_none w.heap.size h a rs.length c w' S ok.l hn h1 (fun w => typeNone ok.t.1 ok.t.2 hk w))
    | true =>
      cases hd : decB h.typ rs with
      | some B => simp [decE, h1, hk, hd] at he
      | none =>
        have e : decE h rs = 28 := by simp [decE, h1, hk, hd]
        rw [e]
        obtain ⟨G1, G2, T⟩ := typeRd hk
        refine decode_no h a rs.length c 28 w (fun w' t S => (dec1_any w.heap.size h a rs.length c G1 G2 rs w' S ok.l hn h1 T.p (fun w'' t' => T.r _ rs w'' ((hv.keepN t).keepN t') hby (by omega))).mono ?_)
        rintro e w'' (⟨B, vl, vr, vd, rfl, hd', -⟩ | ⟨rfl, -, t'⟩)
        · rw [hd] at hd'
          cases hd'
        · exact ⟨rfl, t'⟩
  · have e : decE h rs = 22 := by simp [decE, h1]
    rw [e]
    exact decode_no h a rs.length c 22 w (fun w' t S => dec1_len w.heap.size h a rs.length c w' S ok.l hn h1)
/-- What Check answers. -/
def chkE (h : HV) (rs : List Int) : Int :=
  if h.len ≠ 20 + (rs.length : Int) then 22 else if h.sum = 0 ∨ whole ((headB h ++ rs).drop 2) = false then 23 else if knownB h.typ = false then 21
  else if h.seq = -2147483648 ∨ ¬ bits BinOp.andNot .u16 h.age 32768 ≤ 3600 then 24 else if decB h.typ rs = none then 28 else 0
theorem check_any (h : HV) (ok : h.All) (v : Value) (rs : List Int) (w : World) (hv : ArgAt w v rs) (hby : ∀ z ∈ rs, 0 ≤ z ∧ z < 256) (hn : rs.length ≤ 1000000) :
    Calls Try.prog 14 #[h.sv v] w fun e w' => e = .returned (.int .i64 (chkE h rs)) ∧ Touch (fun _ => False) w w' := by
  obtain ⟨a, c, rfl, hm⟩ := hv.form
  have hl := ok.l
  by_cases h1 : h.len = 20 + (rs.length : Int)
  · by_cases h2 : h.sum = 0
    · have e : chkE h rs = 23 := by simp [chkE, h1, h2]
      rw [e]
      exact check_no h a rs.length c 23 w (fun w' t S => chk1_sum0 w.heap.size h ok _ rs w' S (hv.keepN t) hby hn h1 h2)
    · cases h3 : whole ((headB h ++ rs).drop 2) with
      | false =>
        have e : chkE h rs = 23 := by simp [chkE, h1, h3]
        rw [e]
        exact check_no h a rs.length c 23 w (fun w' t S => chk1_whole w.heap.size h ok _ rs w' S (hv.keepN t) hby hn h1 h2 h3)
      | true =>
        cases hk : knownB h.typ with
        | false =>
          have e : chkE h rs = 21 := by simp [chkE, h1, h2, h3, hk]
          rw [e]
          exact check_no h a rs.length c 21 w (fun w' t S => chk1_typ w.heap.size h ok _ rs w' S (hv.keepN t) hby hn h1 h2 h3 (fun w => typeNone ok.t.1 ok.t.2 hk w))
        | true =>
          obtain ⟨G1, G2, T⟩ := typeRd hk
          by_cases h4 : h.seq = -2147483648
          · have e : chkE h rs = 24 := by simp [chkE, h1, h2, h3, hk, h4]
            rw [e]
            exact check_no h a rs.length c 24 w (fun w' t S => chk1_seq w.heap.size h ok _ rs G1 G2 w' S (hv.keepN t) hby hn h1 h2 h3 h4 T.p)
          · by_cases h5 : bits BinOp.andNot .u16 h.age 32768 ≤ 3600
            · have HA : ∀ w', Touch (fun _ => False) w w' → Sd w' w.heap.size h (.slice a rs.length c) → Calls Try.prog 34 #[.pointer (some ⟨w.heap.size, 0, none⟩)] w' (RdAns h.typ rs w') := fun w' t S => chk1_any w.heap.size h ok _ rs G1 G2 w' S (hv.keepN t) hby hn h1 h2 h3 h4 h5 T.p (fun w'' t' => T.r _ rs w'' ((hv.keepN t).keepN t') hby (by omega))
              cases hd : decB h.typ rs with
              | some B =>
                have e : chkE h rs = 0 := by simp [chkE, h1, h2, h3, hk, h4, h5, hd]
                rw [e]
                exact check_yes h a rs.length c rs w B hd HA
              | none =>
                have e : chkE h rs = 28 := by simp [chkE, h1, h2, h3, hk, h4, h5, hd]
                rw [e]
                refine check_no h a rs.length c 28 w (fun w' t S => (HA w' t S).mono ?_)
                rintro e w'' (⟨B, vl, vr, vd, rfl, hd', -⟩ | ⟨rfl, -, t'⟩)
                · rw [hd] at hd'
                  cases hd'
                · exact ⟨rfl, t'⟩
            · have e : chkE h rs = 24 := by simp [chkE, h1, h2, h3, hk, h4, h5]
              rw [e]
              exact check_no h a rs.length c 24 w (fun w' t S => chk1_age w.heap.size h ok _ rs G1 G2 w' S (hv.keepN t) hby hn h1 h2 h3 h4 h5 T.p)
  · have e : chkE h rs = 22 := by simp [chkE, h1]
    rw [e]
    exact check_no h a rs.length c 22 w (fun w' t S => chk1_len w.heap.size h ok _ rs w' S (hv.keepN t) hby hn h1)
end Go.Proofs.Ytfdpmlogieaiaaa
