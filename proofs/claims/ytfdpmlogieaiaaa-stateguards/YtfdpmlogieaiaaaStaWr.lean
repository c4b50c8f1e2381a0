/- Pure: what is left of a body behind its writer is bare just if the body may be; its bytes. -/
import Derived.Test.YtfdpmlogieaiaaaStaRd
namespace Go.Proofs.Ytfdpmlogieaiaaa
set_option linter.unusedVariables false
set_option maxRecDepth 100000

/-- Is nothing in it? -/
def bareB (b : BV) : Bool := ((b.links.length : Int) + b.routers.length + b.data.length == 0) && (b.flags == 0) && (b.mask == 0) && (b.metric == 0) && (!b.type2) && (b.fwd == 0) && (b.tag == 0)
theorem bareB_iff (b : BV) : bareB b = true ↔ (b.links.length = 0 ∧ b.routers.length = 0 ∧ b.data.length = 0 ∧ b.flags = 0 ∧ b.mask = 0 ∧ b.metric = 0 ∧ b.type2 = false ∧ b.fwd = 0 ∧ b.tag = 0) := by
  unfold bareB
  simp only [Bool.and_eq_true, beq_iff_eq, Bool.not_eq_true']
  constructor
  · rintro ⟨⟨⟨⟨⟨⟨h1, h2⟩, h3⟩, h4⟩, h5⟩, h6⟩, h7⟩
    exact ⟨by omega, by omega, by omega, h2, h3, h4, h5, h6, h7⟩
  · rintro ⟨h1, h2, h3, h4, h5, h6, h7, h8, h9⟩
    exact ⟨⟨⟨⟨⟨⟨by omega, h4⟩, h5⟩, h6⟩, h7⟩, h8⟩, h9⟩
theorem may1 {B : BV} (hl : ∀ x ∈ B.links, 1 ≤ x.typ ∧ x.typ ≤ 4) : bareB { B with links := [], flags := 0 } = mayB 1 B := by
  rw [Bool.eq_iff_iff, bareB_iff, mayB_iff]
  constructor
  · rintro ⟨-, h2, h3, -, h5, h6, h7, h8, h9⟩
    dsimp only at h2 h3 h5 h6 h7 h8 h9
    exact ⟨Or.inl rfl, Or.inr h2, by omega, by omega, Or.inr (Or.inr ⟨h7, h8, h9⟩), Or.inr h3, by rw [h5]; exact pbok_zero, by omega, by omega, by omega, hl⟩
  · rintro ⟨a1, a2, a3, a4, a5, a6, -, -, -, -, -⟩
    obtain ⟨h7, h8, h9⟩ : B.type2 = false ∧ B.fwd = 0 ∧ B.tag = 0 := by rcases a5 with h | h | h; omega; omega; exact h
    exact ⟨rfl, by dsimp only; omega, by dsimp only; omega, rfl, by dsimp only; omega, by dsimp only; omega, h7, h8, h9⟩
theorem may1_no {B : BV} {x : LV} (hx : x ∈ B.links) (hl : ¬ (1 ≤ x.typ ∧ x.typ ≤ 4)) : mayB 1 B = false := by
  rw [Bool.eq_false_iff]
  exact fun h => hl (((mayB_iff _ _).1 h).lin x hx)
theorem may2 {B : BV} (hm : pbok B.mask = true) (hr : 0 < B.routers.length) : bareB { B with mask := 0, routers := [] } = mayB 2 B := by
  rw [Bool.eq_iff_iff, bareB_iff, mayB_iff]
  constructor
  · rintro ⟨h1, -, h3, h4, -, h6, h7, h8, h9⟩
    dsimp only at h1 h3 h4 h6 h7 h8 h9
    exact ⟨Or.inr ⟨h4, h1⟩, Or.inl rfl, Or.inl rfl, by omega, Or.inr (Or.inr ⟨h7, h8, h9⟩), Or.inr h3, hm, by omega, by omega, fun _ => hr, by rw [List.length_eq_zero_iff.1 h1]; simp⟩
  · rintro ⟨a1, a2, a3, a4, a5, a6, -, -, -, -, -⟩
    obtain ⟨h7, h8, h9⟩ : B.type2 = false ∧ B.fwd = 0 ∧ B.tag = 0 := by rcases a5 with h | h | h; omega; omega; exact h
    exact ⟨by dsimp only; omega, rfl, by dsimp only; omega, by dsimp only; omega, rfl, by dsimp only; omega, h7, h8, h9⟩
theorem may_mask_no {t : Int} {B : BV} (hm : pbok B.mask = false) : mayB t B = false := by
  rw [Bool.eq_false_iff]
  intro h
  have := ((mayB_iff _ _).1 h).mask
  rw [hm] at this
  cases this
theorem may_metric_no {t : Int} {B : BV} (hm : ¬ B.metric ≤ 16777215) : mayB t B = false := by
  rw [Bool.eq_false_iff]
  exact fun h => hm ((mayB_iff _ _).1 h).met
theorem may_data_no {t : Int} {B : BV} (hm : ¬ B.data.length % 4 = 0) : mayB t B = false := by
  rw [Bool.eq_false_iff]
  exact fun h => hm ((mayB_iff _ _).1 h).dat
theorem may2_no {B : BV} (hr : ¬ 0 < B.routers.length) : mayB 2 B = false := by
  rw [Bool.eq_false_iff]
  exact fun h => hr (((mayB_iff _ _).1 h).rou rfl)
theorem may3 {B : BV} (hm : pbok B.mask = true) (he : B.metric ≤ 16777215) : bareB { B with mask := 0, metric := 0 } = mayB 3 B := by
  rw [Bool.eq_iff_iff, bareB_iff, mayB_iff]
  constructor
  · rintro ⟨h1, h2, h3, h4, -, -, h7, h8, h9⟩
    dsimp only at h1 h2 h3 h4 h7 h8 h9
    exact ⟨Or.inr ⟨h4, h1⟩, Or.inr h2, by omega, by omega, Or.inr (Or.inr ⟨h7, h8, h9⟩), Or.inr h3, hm, he, by omega, by omega, by rw [List.length_eq_zero_iff.1 h1]; simp⟩
  · rintro ⟨a1, a2, a3, a4, a5, a6, -, -, -, -, -⟩
    obtain ⟨h7, h8, h9⟩ : B.type2 = false ∧ B.fwd = 0 ∧ B.tag = 0 := by rcases a5 with h | h | h; omega; omega; exact h
    exact ⟨by dsimp only; omega, by dsimp only; omega, by dsimp only; omega, by dsimp only; omega, rfl, rfl, h7, h8, h9⟩
theorem may4 {B : BV} (he : B.metric ≤ 16777215) : bareB { B with metric := 0 } = mayB 4 B := by
  rw [Bool.eq_iff_iff, bareB_iff, mayB_iff]
  constructor
  · rintro ⟨h1, h2, h3, h4, h5, -, h7, h8, h9⟩
    dsimp only at h1 h2 h3 h4 h5 h7 h8 h9
    exact ⟨Or.inr ⟨h4, h1⟩, Or.inr h2, by omega, by omega, Or.inr (Or.inr ⟨h7, h8, h9⟩), Or.inr h3, by rw [h5]; exact pbok_zero, he, by omega, by omega, by rw [List.length_eq_zero_iff.1 h1]; simp⟩
  · rintro ⟨a1, a2, a3, a4, a5, a6, -, -, -, -, -⟩
    obtain ⟨h7, h8, h9⟩ : B.type2 = false ∧ B.fwd = 0 ∧ B.tag = 0 := by rcases a5 with h | h | h; omega; omega; exact h
    exact ⟨by dsimp only; omega, by dsimp only; omega, by dsimp only; omega, by dsimp only; omega, by dsimp only; omega, rfl, h7, h8, h9⟩
theorem may5 {t : Int} {B : BV} (ht : t = 5 ∨ t = 7) (hm : pbok B.mask = true) (he : B.metric ≤ 16777215) : bareB { B with mask := 0, type2 := false, metric := 0, fwd := 0, tag := 0 } = mayB t B := by
  rw [Bool.eq_iff_iff, bareB_iff, mayB_iff]
  constructor
  · rintro ⟨h1, h2, h3, h4, -, -, -, -, -⟩
    dsimp only at h1 h2 h3 h4
    exact ⟨Or.inr ⟨h4, h1⟩, Or.inr h2, by omega, by omega, by omega, Or.inr h3, hm, he, by omega, by omega, by rw [List.length_eq_zero_iff.1 h1]; simp⟩
  · rintro ⟨a1, a2, a3, a4, a5, a6, -, -, -, -, -⟩
    exact ⟨by dsimp only; omega, by dsimp only; omega, by dsimp only; omega, by dsimp only; omega, rfl, rfl, rfl, rfl, rfl⟩
theorem may9 {t : Int} {B : BV} (ht : 9 ≤ t) (hd : B.data.length % 4 = 0) : bareB { B with data := [] } = mayB t B := by
  rw [Bool.eq_iff_iff, bareB_iff, mayB_iff]
  constructor
  · rintro ⟨h1, h2, -, h4, h5, h6, h7, h8, h9⟩
    dsimp only at h1 h2 h4 h5 h6 h7 h8 h9
    exact ⟨Or.inr ⟨h4, h1⟩, Or.inr h2, by omega, by omega, Or.inr (Or.inr ⟨h7, h8, h9⟩), Or.inl ht, by rw [h5]; exact pbok_zero, by omega, hd, by omega, by rw [List.length_eq_zero_iff.1 h1]; simp⟩
  · rintro ⟨a1, a2, a3, a4, a5, a6, -, -, -, -, -⟩
    obtain ⟨h7, h8, h9⟩ : B.type2 = false ∧ B.fwd = 0 ∧ B.tag = 0 := by rcases a5 with h | h | h; omega; omega; exact h
    exact ⟨by dsimp only; omega, by dsimp only; omega, rfl, by dsimp only; omega, by dsimp only; omega, by dsimp only; omega, h7, h8, h9⟩
theorem num4_3 {x : Int} (h0 : 0 ≤ x) (h : x ≤ 16777215) : numBytes 4 x = 0 :: numBytes 3 x := by
  rw [numBytes4, numBytes3]
  congr 1
  omega
theorem num4_128 {x : Int} (h0 : 0 ≤ x) (h : x ≤ 16777215) : numBytes 4 ((x + 2147483648) % 4294967296) = 128 :: numBytes 3 x := by
  rw [numBytes4, numBytes3]
  simp
  omega
theorem lay1 (B : BV) : layB 1 B = [B.flags, 0] ++ numBytes 2 ((B.links.length : Int) % 65536) ++ linksB B.links := by simp [layB]
theorem lay2 (B : BV) : layB 2 B = numBytes 4 B.mask ++ routersB B.routers := by simp [layB]
theorem lay3 {B : BV} (h0 : 0 ≤ B.metric) (he : B.metric ≤ 16777215) : layB 3 B = numBytes 4 B.mask ++ [0] ++ numBytes 3 B.metric := by
  unfold layB
  rw [if_neg (by omega), if_neg (by omega), if_pos (Or.inl rfl), num4_3 h0 he]
  simp
theorem lay4 {B : BV} (h0 : 0 ≤ B.metric) (he : B.metric ≤ 16777215) : layB 4 { B with mask := 0 } = [0, 0, 0, 0, 0] ++ numBytes 3 B.metric := by
  unfold layB
  rw [if_neg (by omega), if_neg (by omega), if_pos (Or.inr rfl)]
  dsimp only
  rw [num4_3 h0 he]
  rfl
theorem lay5 {t : Int} {B : BV} (ht : t = 5 ∨ t = 7) (h0 : 0 ≤ B.metric) (he : B.metric ≤ 16777215) : layB t B = numBytes 4 B.mask ++ [if B.type2 = true then 128 else 0] ++ numBytes 3 B.metric ++ numBytes 4 B.fwd ++ numBytes 4 B.tag := by
  unfold layB
  rw [if_neg (by omega), if_neg (by omega), if_neg (by omega), if_pos ht]
  unfold metricN
  cases B.type2 with
  | true => simp only [if_true]; rw [num4_128 h0 he]; simp
  | false => simp only [Bool.false_eq_true, if_false]; rw [num4_3 h0 he]; simp
theorem lay9 {t : Int} {B : BV} (ht : 9 ≤ t) : layB t B = B.data := by
  unfold layB
  rw [if_neg (by omega), if_neg (by omega), if_neg (by omega), if_neg (by omega)]
theorem layB_byte {t : Int} {B : BV} (ok : B.Ok) : ∀ z ∈ layB t B, 0 ≤ z ∧ z < 256 := by
  intro z hz
  unfold layB at hz
  split at hz
  · simp only [List.mem_append] at hz
    rcases hz with (hz | hz) | hz
    · have := ok.f
      simp at hz
      rcases hz with rfl | rfl <;> omega
    · exact numBytes_byte _ _ z hz
    · simp only [linksB, List.mem_flatMap] at hz
      obtain ⟨x, hx, hz⟩ := hz
      have hxt := (ok.l x hx).t
      simp only [linkB, List.mem_append] at hz
      rcases hz with ((hz | hz) | hz) | hz
      · exact numBytes_byte _ _ z hz
      · exact numBytes_byte _ _ z hz
      · simp at hz
        rcases hz with rfl | rfl <;> omega
      · exact numBytes_byte _ _ z hz
  · split at hz
    · simp only [List.mem_append] at hz
      rcases hz with hz | hz
      · exact numBytes_byte _ _ z hz
      · simp only [routersB, List.mem_flatMap] at hz
        obtain ⟨x, hx, hz⟩ := hz
        exact numBytes_byte _ _ z hz
    · split at hz
      · simp only [List.mem_append] at hz
        rcases hz with hz | hz
        · exact numBytes_byte _ _ z hz
        · exact numBytes_byte _ _ z hz
      · split at hz
        · simp only [List.mem_append] at hz
          rcases hz with ((hz | hz) | hz) | hz
          · exact numBytes_byte _ _ z hz
          · exact numBytes_byte _ _ z hz
          · exact numBytes_byte _ _ z hz
          · exact numBytes_byte _ _ z hz
        · exact ok.d z hz
end Go.Proofs.Ytfdpmlogieaiaaa
