/- What stands on a store's sectors: whatever is done, and wherever it falls: plain data, nothing of the program. -/
/- A store's sectors behind an addition, a commit, and where it falls: plain data, nothing of the program. -/
import Derived.Test.YtikkakdeapbioaaDoorStP
set_option linter.unusedVariables false
set_option linter.unusedSimpArgs false
set_option linter.unnecessarySimpa false
namespace Go.Proofs.YtikkakdeapbioaaDoor
open Go.RowKit

/-! ### pieces of 48 bytes -/
theorem pcs_chunk : ∀ (n : Nat) (s : ByteArray), datas (pcs (fun _ => 48) n s) = chunkL n s.data.toList
  | 0, s => rfl
  | n + 1, s => by
    cases hd : s.data.toList with
    | nil =>
      have : s.size = 0 := by have := congrArg List.length hd; simpa using this
      unfold pcs
      rw [if_pos this]
      rfl
    | cons x r =>
      have hz : s.size = (x :: r).length := by have := congrArg List.length hd; simpa using this
      unfold pcs chunkL
      rw [if_neg (by rw [hz]; simp)]
      show (s.extract 0 (min 48 s.size)).data.toList :: datas (pcs (fun _ => 48) n (s.extract (min 48 s.size) s.size)) = _
      have e1 : (s.extract 0 (min 48 s.size)).data.toList = (x :: r).take 48 := by
        rw [ext_toList, hd, List.drop_zero, Nat.sub_zero, hz]
        by_cases h : 48 ≤ (x :: r).length
        · rw [Nat.min_eq_left h]
        · rw [Nat.min_eq_right (by omega), List.take_of_length_le (Nat.le_refl _), List.take_of_length_le (by omega)]
      have e2 : (s.extract (min 48 s.size) s.size).data.toList = (x :: r).drop 48 := by
        rw [ext_toList, hd, hz, List.take_of_length_le (by simp)]
        by_cases h : 48 ≤ (x :: r).length
        · rw [Nat.min_eq_left h]
        · rw [Nat.min_eq_right (by omega), List.drop_of_length_le (Nat.le_refl _), List.drop_of_length_le (by omega)]
      rw [pcs_chunk n, e1, e2]
theorem padS_eq (s : ByteArray) : padS s = padL s.data.toList := by unfold padS padL; rw [Array.length_toList]; rfl
theorem chunks_pad (t : ByteArray) : (chunks t).map padS = (chunkL t.size t.data.toList).map padL := by
  rw [← pcs_chunk]
  unfold datas chunks
  rw [List.map_map]
  exact List.map_congr_left (fun x _ => padS_eq x)
theorem chunks_flat (t : ByteArray) : ∃ k, ((chunks t).map padS).flatten = t.data.toList ++ List.replicate k 0 := by
  rw [chunks_pad]; exact chunk_flat _ _ (by rw [Array.length_toList]; exact Nat.le_refl _)
theorem chunks_len (t : ByteArray) : (chunks t).length = (t.size + 47) / 48 := by
  have h := congrArg List.length (chunks_pad t)
  rw [List.length_map, List.length_map, chunk_many _ _ (by rw [Array.length_toList]; exact Nat.le_refl _), Array.length_toList] at h
  exact h
theorem chunks_small (t : ByteArray) : ∀ s ∈ chunks t, s.size ≤ 48 := pcs_small _ 48 (fun _ => Nat.le_refl _) _ _
theorem chunks_one (t : ByteArray) (h0 : 0 < t.size) (h1 : t.size ≤ 48) : chunks t = [t] := by
  unfold chunks
  cases hn : t.size with
  | zero => omega
  | succ n =>
    unfold pcs
    have e0 : t.extract 0 t.size = t := by simp
    rw [if_neg (by omega), show min 48 t.size = t.size by omega, e0, pcs_end _ _ (by rw [ByteArray.size_extract]; omega)]
/-! ### what stands on the sectors -/
structure SK (k : List (List UInt8)) (h : Hd3) (base : List Ch) (D : List (List Ch)) (u : Nat) : Prop where
  n : 166 ≤ k.length
  n2 : k.length ≤ 200
  s48 : ∀ s ∈ k, s.length = 48
  hok : HdOk h
  sec0 : k[0]? = some (padL (headL h))
  txt : (halfT k h.half 50).take h.size = joinL base
  good : ∀ c ∈ base, chkC c = 0
  ris : Ris base
  inv : LogInv h.first (logT k) D u
  dgood : ∀ l ∈ D, chksC l = 0
  dlen : ∀ l ∈ D, l.length ≤ 62
  rlen : ∀ j, j ≤ D.length → (foldR base (D.take j)).length ≤ 60
theorem seg_same {k k' : List (List UInt8)} {a m : Nat} (h : ∀ j, a ≤ j → j < a + m → k'[j]? = k[j]?) : (k'.drop a).take m = (k.drop a).take m := by
  apply List.ext_getElem?
  intro j
  rw [List.getElem?_take, List.getElem?_take]
  split
  · rw [List.getElem?_drop, List.getElem?_drop]; exact h _ (by omega) (by omega)
  · rfl
/-- what a store needs of its sectors -/
theorem SK.same {k k' : List (List UInt8)} {h : Hd3} {base : List Ch} {D : List (List Ch)} {u : Nat} (x : SK k h base D u) (hl : k'.length = k.length) (h48 : ∀ s ∈ k', s.length = 48) (h0 : k'[0]? = k[0]?) (h1 : ∀ j, 1 + 50 * h.half ≤ j → j < 1 + 50 * h.half + 50 → k'[j]? = k[j]?) (h2 : ∀ j, 102 ≤ j → k'[j]? = k[j]?) : SK k' h base D u := by
  refine ⟨by rw [hl]; exact x.n, by rw [hl]; exact x.n2, h48, x.hok, h0.trans x.sec0, ?_, x.good, x.ris, ?_, x.dgood, x.dlen, x.rlen⟩
  · unfold halfT
    rw [seg_same h1]; exact x.txt
  · unfold logT
    rw [hl, seg_same (fun j hj _ => h2 j hj)]; exact x.inv
theorem chks_mem : ∀ {l : List Ch}, chksC l = 0 → ∀ c ∈ l, chkC c = 0
  | [], _, c, hc => by cases hc
  | x :: l, h, c, hc => by
    unfold chksC at h
    split at h
    · rename_i hx
      rcases List.mem_cons.1 hc with rfl | hc
      · exact hx
      · exact chks_mem h c hc
    · rename_i hx; exact absurd h hx
theorem apL_good : ∀ (cs l : List Ch), (∀ c ∈ l, chkC c = 0) → chksC cs = 0 → ∀ c ∈ apL l cs, chkC c = 0
  | [], l, h, _ => h
  | x :: cs, l, h, hc => by
    have hm := chks_mem hc
    refine apL_good cs (apC l x) (fun c h1 => ?_) ?_
    · rcases mem_apC h1 with h2 | h2
      · exact h c h2
      · rw [h2]; exact hm x List.mem_cons_self
    · unfold chksC at hc
      rw [if_pos (hm x List.mem_cons_self)] at hc
      exact hc
theorem foldR_good : ∀ (D : List (List Ch)) (l : List Ch), (∀ c ∈ l, chkC c = 0) → (∀ x ∈ D, chksC x = 0) → ∀ c ∈ foldR l D, chkC c = 0
  | [], l, h, _ => h
  | x :: D, l, h, hd => foldR_good D (apL l x) (apL_good x l h (hd x List.mem_cons_self)) (fun y hy => hd y (List.mem_cons_of_mem _ hy))
theorem foldR_snoc (base : List Ch) (D : List (List Ch)) (l : List Ch) : foldR base (D ++ [l]) = apL (foldR base D) l := by unfold foldR; rw [List.foldl_append]; rfl
/-- a store whose disk keeps all, as its sectors have it -/
structure SI (F : Nat) (x : Sto) (base : List Ch) (D : List (List Ch)) : Prop where
  q : QD x.d
  sk : SK x.d.now x.h base D x.lg.used
  lg : x.lg = ⟨102, x.d.now.length - 102, x.h.first, x.lg.used⟩
  rows : x.rows = foldR base D
  first : x.lg.first ≤ F
theorem SI.stb {F : Nat} {x : Sto} {base : List Ch} {D : List (List Ch)} (h : SI F x base D) (hF : F ≤ 1000000) : StB x := by
  have hs := h.sk
  have e := h.lg
  have h1 : x.lg.frm = 102 := by rw [e]
  have h2 : x.lg.many = x.d.now.length - 102 := by rw [e]
  have h3 : x.lg.first = x.h.first := by rw [e]
  have hu := hs.inv.le
  have hl : (logT x.d.now).length = x.d.now.length - 102 := by unfold logT; simp
  refine ⟨?_, ?_, ?_, hs.hok.1, hs.n, h1, h2, by omega, ⟨by rw [h3]; exact hs.hok.2.1, Nat.le_trans h.first hF⟩, by rw [h.q.wr]; simp⟩
  · rw [h.rows]; exact foldR_good D base hs.good hs.dgood
  · rw [h.rows]; exact foldR_ris D base hs.ris
  · rw [h.rows]; have := hs.rlen D.length (Nat.le_refl _); rwa [List.take_length] at this
/-! ### rows are laid -/
theorem get_mem48 {l : List (List UInt8)} (h : ∀ (j : Nat) (s : List UInt8), l[j]? = some s → s.length = 48) : ∀ s ∈ l, s.length = 48 := fun s hs => by
  obtain ⟨j, hj⟩ := List.mem_iff_getElem?.1 hs
  exact h j s hj
theorem setL_48 {now : List (List UInt8)} (h : ∀ s ∈ now, s.length = 48) {a : Nat} {ss : List ByteArray} (hs : ∀ s ∈ ss, s.size ≤ 48) (hl : a + ss.length ≤ now.length) : ∀ s ∈ setL now a ss, s.length = 48 :=
  get_mem48 (fun j s hj => by
    rw [setL_get ss now a j hl] at hj
    split at hj
    · obtain ⟨t, ht, rfl⟩ := Option.map_eq_some_iff.1 hj
      exact padS_len (hs t (List.mem_of_getElem? ht))
    · exact h s (List.mem_of_getElem? hj))
theorem land_48' (keep : Nat) {k : List (List UInt8)} (h : ∀ s ∈ k, s.length = 48) {a : Nat} {ss : List ByteArray} (hs : ∀ s ∈ ss, s.size ≤ 48) : ∀ s ∈ landW keep k (wrsL a ss) 0, s.length = 48 :=
  land_48 keep _ _ _ h (fun x hx => by
    obtain ⟨i, t, h1, rfl⟩ := mem_wrsL _ _ _ hx
    exact padS_len (hs t (List.mem_of_getElem? h1)))
/-- but in a half nothing is another one -/
def OutH (half : Nat) (k now : List (List UInt8)) : Prop := k.length = now.length ∧ (∀ s ∈ k, s.length = 48) ∧ ∀ j, (j < 1 + 50 * half ∨ 1 + 50 * half + 50 ≤ j) → k[j]? = now[j]?
structure LayH (d : Dk) (h : Hd3) (rows : List Ch) : Prop where
  q : QD d
  s48 : ∀ s ∈ d.now, s.length = 48
  n : 166 ≤ d.now.length
  n2 : d.now.length ≤ 200
  half : h.half ≤ 1
  first : 1 ≤ h.first ∧ h.first ≤ 1000000
  good : ∀ c ∈ rows, chkC c = 0
  ris : Ris rows
  len : rows.length ≤ 60
theorem LayH.join {d : Dk} {h : Hd3} {rows : List Ch} (x : LayH d h rows) : (joinL rows).length ≤ 2100 := by
  have := join_len rows x.good
  have := x.len
  omega
theorem LayH.many {d : Dk} {h : Hd3} {rows : List Ch} (x : LayH d h rows) : (chunks (strOf (joinL rows))).length ≤ 45 := by
  have := x.join
  rw [chunks_len, str_size]; omega
theorem LayH.hdok {d : Dk} {h : Hd3} {rows : List Ch} (x : LayH d h rows) : HdOk (layF d h rows) := by
  have h1 := newF_bd (lay1 d h rows).1.now h.first
  have h2 := x.join
  have h3 := x.first
  exact ⟨x.half, by show 1 ≤ newF _ _; omega, by show newF _ _ < _; omega, by show (joinL rows).length ≤ 2400; omega⟩
theorem head_one (h : Hd3) : chunks (strOf (headL h)) = [strOf (headL h)] := chunks_one _ (by rw [str_size, headL_len]; omega) (by rw [str_size, headL_len]; omega)
theorem head_pad (h : Hd3) : padS (strOf (headL h)) = padL (headL h) := padS_str _
/-- the sectors behind the rows -/
theorem lay1_now {d : Dk} {h : Hd3} {rows : List Ch} (x : LayH d h rows) (hC : (lay1 d h rows).2 = 0) :
    (lay1 d h rows).1.now = setL d.now (1 + 50 * h.half) (chunks (strOf (joinL rows))) ∧ QD (lay1 d h rows).1 ∧ (d.left < 0 → (lay1 d h rows).1.left = d.left) := by
  have hm := x.many
  have hh := x.half
  have hn := x.n
  rcases lgW_spec (chunks (strOf (joinL rows))) d (1 + 50 * h.half) x.q.down (by omega) (chunks_small _) with ⟨-, h1, h2, h3, h4, h5⟩ | ⟨h1, -⟩
  · exact ⟨h1, ⟨h2.trans h1.symm, h3, h4⟩, h5⟩
  · have : (lay1 d h rows).2 = 10 := h1
    rw [hC] at this; cases this
theorem out_set {d : Dk} {h : Hd3} {rows : List Ch} (x : LayH d h rows) : OutH h.half (setL d.now (1 + 50 * h.half) (chunks (strOf (joinL rows)))) d.now := by
  have hm := x.many
  have hh := x.half
  have hn := x.n
  refine ⟨setL_len _ _ _, setL_48 x.s48 (chunks_small _) (by omega), fun j hj => ?_⟩
  rw [setL_get _ _ _ _ (by omega), if_neg (by omega)]
/-- rows, head and log where all went well -/
theorem lay_new {d : Dk} {h : Hd3} {rows : List Ch} (x : LayH d h rows) (hC : (lay1 d h rows).2 = 0) : SK ((lay1 d h rows).1.now.set 0 (padL (headL (layF d h rows)))) (layF d h rows) rows [] 0 := by
  obtain ⟨e, -, -⟩ := lay1_now x hC
  obtain ⟨o1, o2, o3⟩ := out_set x
  have hm := x.many
  have hh := x.half
  have hn := x.n
  have hj := x.join
  have hlog : logT ((lay1 d h rows).1.now.set 0 (padL (headL (layF d h rows)))) = logT (lay1 d h rows).1.now := by
    unfold logT
    rw [List.length_set]
    exact seg_same (fun j hj _ => List.getElem?_set_ne (by omega))
  have hnil := newF_nil (lay1 d h rows).1.now h.first
  have hz := lg_zero hnil
  refine ⟨by rw [List.length_set, e, o1]; exact hn, by rw [List.length_set, e, o1]; exact x.n2, ?_, x.hdok, ?_, ?_, x.good, x.ris, ?_, by simp, by simp, ?_⟩
  · refine mem_set48 (by rw [e]; exact o2) 0 ?_
    unfold padL; rw [List.length_append, List.length_replicate, headL_len]
  · rw [List.getElem?_set_self (by rw [e, o1]; omega)]
  · show (halfT _ h.half 50).take (joinL rows).length = _
    obtain ⟨k, hk⟩ := chunks_flat (strOf (joinL rows))
    rw [str_data] at hk
    have hseg : halfT ((lay1 d h rows).1.now.set 0 (padL (headL (layF d h rows)))) h.half (chunks (strOf (joinL rows))).length = joinL rows ++ List.replicate k 0 := by
      unfold halfT
      rw [← hk]
      congr 1
      apply List.ext_getElem?
      intro j
      rw [List.getElem?_take]
      split
      · rw [List.getElem?_drop, List.getElem?_set_ne (by omega), e, setL_get _ _ _ _ (by omega), if_pos (by omega), List.getElem?_map, show 1 + 50 * h.half + j - (1 + 50 * h.half) = j by omega]
      · rw [List.getElem?_eq_none (by simp; omega)]
    have hle : (joinL rows).length ≤ (joinL rows ++ List.replicate k 0).length := by simp
    have hpre : ∀ (X : List (List UInt8)) (m : Nat), m ≤ 50 → ∃ r, halfT X h.half 50 = halfT X h.half m ++ r := fun X m hmm => by
      refine ⟨(((X.drop (1 + 50 * h.half)).take 50).drop m).flatten, ?_⟩
      unfold halfT
      conv => lhs; rw [← List.take_append_drop m ((X.drop (1 + 50 * h.half)).take 50), List.flatten_append, List.take_take, Nat.min_eq_left hmm]
    replace hpre := hpre ((lay1 d h rows).1.now.set 0 (padL (headL (layF d h rows)))) (chunks (strOf (joinL rows))).length (by omega)
    obtain ⟨r, hr⟩ := hpre
    rw [hr, hseg, List.append_assoc, List.take_left]
  · have hi := LogInv.of (newF (lay1 d h rows).1.now h.first) (logT (lay1 d h rows).1.now)
    rw [hnil, hz] at hi
    rw [hlog]
    exact hi
  · intro j hj
    simp only [List.length_nil, Nat.le_zero] at hj
    subst hj
    exact x.len
theorem setL_one (now : List (List UInt8)) (t : ByteArray) : setL now 0 [t] = now.set 0 (padS t) := rfl
theorem lay2_cases {d : Dk} {h : Hd3} {rows : List Ch} (x : LayH d h rows) (hC : (lay1 d h rows).2 = 0) :
    ((lay2 d h rows).2 = 0 ∧ (lay2 d h rows).1.now = (lay1 d h rows).1.now.set 0 (padL (headL (layF d h rows))) ∧ QD (lay2 d h rows).1 ∧ (d.left < 0 → (lay2 d h rows).1.left = d.left)) ∨
    ((lay2 d h rows).2 = 10 ∧ 0 ≤ d.left ∨ False) ∧ (lay2 d h rows).2 = 10 ∧ (lay2 d h rows).1.kept = (lay1 d h rows).1.now ∧ (lay2 d h rows).1.down = true ∧ ∃ m, (lay2 d h rows).1.wr = wrsL 0 (List.take m [strOf (headL (layF d h rows))]) := by
  obtain ⟨e, hq, hl⟩ := lay1_now x hC
  have hn : (lay1 d h rows).1.now.length = d.now.length := by rw [e, setL_len]
  have hnn := x.n
  have hs := lgW_spec (chunks (strOf (headL (layF d h rows)))) (lay1 d h rows).1 0 hq.down (by rw [head_one, hn]; simp; omega) (chunks_small _)
  rw [head_one] at hs
  have e2 : lay2 d h rows = lgW (lay1 d h rows).1 0 [strOf (headL (layF d h rows))] := by show lgW _ _ (chunks _) = _; rw [head_one]
  rw [← e2] at hs
  rcases hs with ⟨h0, h1, h2, h3, h4, h5⟩ | ⟨h0, h1, h2, h3, h4, m, h5⟩
  · left
    rw [setL_one, head_pad] at h1 h2
    refine ⟨h0, h1, ⟨h2.trans h1.symm, h3, h4⟩, fun hneg => ?_⟩
    have := hl hneg
    rw [h5 (by rw [this]; exact hneg), this]
  · right
    refine ⟨.inl ⟨h0, ?_⟩, h0, h1.trans hq.kept, h2, m, by rw [h5, hq.wr, List.nil_append]⟩
    by_cases hneg : d.left < 0
    · have := hl hneg; omega
    · omega
/-- rows are laid, or it fell on the way -/
theorem lay_spec {d : Dk} {h : Hd3} {rows : List Ch} (x : LayH d h rows) :
    (layC d h rows = 0 ∧ SK (layR d h rows).now (layF d h rows) rows [] 0 ∧ QD (layR d h rows) ∧ (layR d h rows).now.length = d.now.length ∧ (d.left < 0 → (layR d h rows).left = d.left) ∧ (lay1 d h rows).2 = 0 ∧ (lay2 d h rows).2 = 0) ∨
    (layC d h rows = 10 ∧ 0 ≤ d.left ∧ (layR d h rows).down = true ∧ (layR d h rows).now.length = d.now.length ∧ ∀ keep : Nat, OutH h.half (landW keep (layR d h rows).kept (layR d h rows).wr 0) d.now ∨ SK (landW keep (layR d h rows).kept (layR d h rows).wr 0) (layF d h rows) rows [] 0) := by
  have hm := x.many
  have hh := x.half
  have hn := x.n
  by_cases hC : (lay1 d h rows).2 = 0
  · obtain ⟨e, hq, hl⟩ := lay1_now x hC
    have hnl : (lay1 d h rows).1.now.length = d.now.length := by rw [e, setL_len]
    have hR : layR d h rows = (lay2 d h rows).1 := by unfold layR; rw [if_pos hC]
    have hCe : layC d h rows = (lay2 d h rows).2 := by unfold layC; rw [if_pos hC]
    have hnew := lay_new x hC
    have hln : (lay2 d h rows).1.now.length = d.now.length := by
      show (lgW _ _ _).1.now.length = _
      rw [lgW_now, hnl]
    rw [hR, hCe]
    rcases lay2_cases x hC with ⟨h0, h1, h2, h3⟩ | ⟨h0', h0, h1, h2, m, h3⟩
    · exact .inl ⟨h0, by rw [h1]; exact hnew, h2, hln, h3, hC, h0⟩
    · refine .inr ⟨h0, by rcases h0' with h0' | h0'; exact h0'.2; exact h0'.elim, h2, hln, fun keep => ?_⟩
      have hout : OutH h.half (lay1 d h rows).1.now d.now := by rw [e]; exact out_set x
      rw [h1, h3]
      cases m with
      | zero => exact .inl hout
      | succ m =>
        have hw : wrsL 0 (List.take (m + 1) [strOf (headL (layF d h rows))]) = [(0, padL (headL (layF d h rows)))] := by simp [wrsL, head_pad]
        rw [hw]
        unfold landW landW
        split
        · exact .inr hnew
        · exact .inl hout
  · have hR : layR d h rows = (lay1 d h rows).1 := by unfold layR; rw [if_neg hC]
    have hCe : layC d h rows = (lay1 d h rows).2 := by unfold layC; rw [if_neg hC]
    rw [hR, hCe]
    rcases lgW_spec (chunks (strOf (joinL rows))) d (1 + 50 * h.half) x.q.down (by omega) (chunks_small _) with ⟨h0, -⟩ | ⟨h0, h1, h2, h3, h4, m, h5⟩
    · exact absurd h0 hC
    · refine .inr ⟨h0, h3, h2, h4, fun keep => .inl ?_⟩
      show OutH h.half (landW keep (lgW d (1 + 50 * h.half) (chunks (strOf (joinL rows)))).1.kept (lgW d (1 + 50 * h.half) (chunks (strOf (joinL rows)))).1.wr 0) d.now
      rw [h1, h5, x.q.wr, List.nil_append, x.q.kept]
      refine ⟨land_len _ _ _ _, land_48' keep x.s48 (fun s hs => chunks_small _ s (List.mem_of_mem_take hs)), fun j hj => ?_⟩
      by_cases hjl : j < d.now.length
      · obtain ⟨s, hs⟩ : ∃ s, (landW keep d.now (wrsL (1 + 50 * h.half) (List.take m (chunks (strOf (joinL rows))))) 0)[j]? = some s := ⟨_, List.getElem?_eq_getElem (by rw [land_len]; exact hjl)⟩
        rcases land_sub keep _ _ _ _ _ hs with h6 | h6
        · rw [hs, h6]
        · obtain ⟨i, t, k1, k2⟩ := mem_wrsL _ _ _ h6
          simp only [Prod.mk.injEq] at k2
          have := (List.getElem?_eq_some_iff.1 k1).1
          rw [List.length_take] at this
          omega
      · rw [List.getElem?_eq_none (by rw [land_len]; omega), List.getElem?_eq_none (by omega)]
/-! ### a checkpoint -/
theorem SI.layH {F : Nat} {x : Sto} {base : List Ch} {D : List (List Ch)} (h : SI F x base D) (hF : F ≤ 900000) : LayH x.d (ckH x.h x.lg) x.rows := by
  have hb := h.stb (by omega)
  have h2 := hb.first
  have hm := hb.many
  have hn2 := h.sk.n2
  exact ⟨h.q, h.sk.s48, h.sk.n, h.sk.n2, by show 1 - x.h.half ≤ 1; omega, by show 1 ≤ x.lg.first + x.lg.many ∧ x.lg.first + x.lg.many ≤ _; have := h.first; omega, hb.good, hb.ris, hb.len⟩
theorem OutH.sk {k now : List (List UInt8)} {h : Hd3} {base : List Ch} {D : List (List Ch)} {u : Nat} (o : OutH (1 - h.half) k now) (x : SK now h base D u) : SK k h base D u := by
  have hh := x.hok.1
  exact x.same o.1 o.2.1 (o.2.2 0 (by omega)) (fun j h1 h2 => o.2.2 j (by omega)) (fun j h1 => o.2.2 j (by omega))
theorem ck_spec {F : Nat} {x : Sto} {base : List Ch} {D : List (List Ch)} (h : SI F x base D) (hF : F ≤ 900000) :
    (ckC x = 0 ∧ SI (F + 100) (ckR x) x.rows [] ∧ (ckR x).rows = x.rows ∧ (ckR x).lg.used = 0 ∧ (ckR x).d.now.length = x.d.now.length ∧ (x.d.left < 0 → (ckR x).d.left = x.d.left)) ∨
    (ckC x = 10 ∧ 0 ≤ x.d.left ∧ (ckR x).d.down = true ∧ (ckR x).d.now.length = x.d.now.length ∧ ∀ keep : Nat, ∃ h' b' D' u', SK (landW keep (ckR x).d.kept (ckR x).d.wr 0) h' b' D' u' ∧ foldR b' D' = x.rows ∧ h'.first ≤ F + 100) := by
  have hl := h.layH hF
  have hb := h.stb (by omega)
  have hfirst : (layF x.d (ckH x.h x.lg) x.rows).first ≤ F + 100 := by
    have h1 := newF_bd (lay1 x.d (ckH x.h x.lg) x.rows).1.now (x.lg.first + x.lg.many)
    have h2 := h.first
    have h3 := hb.many
    have h4 := h.sk.n2
    show newF _ (x.lg.first + x.lg.many) ≤ _
    omega
  rcases lay_spec hl with ⟨h0, h1, h2, h3, h4, -, -⟩ | ⟨h0, h1, h2, h3, h4⟩
  · left
    have e : ckR x = ⟨layR x.d (ckH x.h x.lg) x.rows, layF x.d (ckH x.h x.lg) x.rows, ⟨102, x.d.now.length - 102, (layF x.d (ckH x.h x.lg) x.rows).first, 0⟩, x.rows⟩ := by unfold ckR; rw [if_pos h0]
    rw [e]
    exact ⟨h0, ⟨h2, h1, by rw [h3], rfl, hfirst⟩, rfl, rfl, h3, h4⟩
  · right
    have e : ckR x = ⟨layR x.d (ckH x.h x.lg) x.rows, x.h, x.lg, x.rows⟩ := by unfold ckR; rw [if_neg (by rw [h0]; decide)]
    rw [e]
    refine ⟨h0, h1, h2, h3, fun keep => ?_⟩
    rcases h4 keep with h5 | h5
    · have h6 : OutH (1 - x.h.half) (landW keep (layR x.d (ckH x.h x.lg) x.rows).kept (layR x.d (ckH x.h x.lg) x.rows).wr 0) x.d.now := h5
      refine ⟨_, _, _, _, h6.sk h.sk, h.rows.symm, ?_⟩
      have := h.lg
      have h7 := h.first
      rw [this] at h7
      exact Nat.le_trans h7 (by omega)
    · exact ⟨_, _, _, _, h5, rfl, hfirst⟩
end Go.Proofs.YtikkakdeapbioaaDoor
set_option linter.unusedVariables false
set_option linter.unusedSimpArgs false
set_option linter.unnecessarySimpa false
namespace Go.Proofs.YtikkakdeapbioaaDoor
open Go.RowKit

theorem lgW_q (ss : List ByteArray) (d : Dk) (a : Nat) (hq : QD d) (hl : a + ss.length ≤ d.now.length) (hs : ∀ s ∈ ss, s.size ≤ 48) (h48 : ∀ s ∈ d.now, s.length = 48) :
    ((lgW d a ss).2 = 0 ∧ QD (lgW d a ss).1 ∧ (∀ s ∈ (lgW d a ss).1.now, s.length = 48) ∧ (lgW d a ss).1.now.length = d.now.length ∧ ∀ j, j < a → (lgW d a ss).1.now[j]? = d.now[j]?) ∨
    ((lgW d a ss).2 = 10 ∧ ∀ keep : Nat, (landW keep (lgW d a ss).1.kept (lgW d a ss).1.wr 0).length = d.now.length ∧ (∀ s ∈ landW keep (lgW d a ss).1.kept (lgW d a ss).1.wr 0, s.length = 48) ∧ ∀ j, j < a → (landW keep (lgW d a ss).1.kept (lgW d a ss).1.wr 0)[j]? = d.now[j]?) := by
  rcases lgW_spec ss d a hq.down hl hs with ⟨h0, h1, h2, h3, h4, h5⟩ | ⟨h0, h1, h2, h3, h4, m, h5⟩
  · refine .inl ⟨h0, ⟨h2.trans h1.symm, h3, h4⟩, by rw [h1]; exact setL_48 h48 hs hl, by rw [h1, setL_len], fun j hj => ?_⟩
    rw [h1, setL_get _ _ _ _ hl, if_neg (by omega)]
  · refine .inr ⟨h0, fun keep => ?_⟩
    rw [h1, h5, hq.wr, List.nil_append, hq.kept]
    refine ⟨land_len _ _ _ _, land_48' keep h48 (fun s hs' => hs s (List.mem_of_mem_take hs')), fun j hj => ?_⟩
    by_cases hjl : j < d.now.length
    · obtain ⟨s, hs'⟩ : ∃ s, (landW keep d.now (wrsL a (List.take m ss)) 0)[j]? = some s := ⟨_, List.getElem?_eq_getElem (by rw [land_len]; exact hjl)⟩
      rcases land_sub keep _ _ _ _ _ hs' with h6 | h6
      · rw [hs', h6]
      · obtain ⟨i, t, k1, k2⟩ := mem_wrsL _ _ _ h6
        simp only [Prod.mk.injEq] at k2
        omega
    · rw [List.getElem?_eq_none (by rw [land_len]; omega), List.getElem?_eq_none (by omega)]
/-- ahead of a log nothing is another one -/
theorem add_out {d : Dk} {lg : Lg} {l : List Ch} {deeds : List (List Ch)} (h : AddPre d lg l deeds) (h48 : ∀ s ∈ d.now, s.length = 48) :
    ((addR d lg l).2.2 = 0 → (∀ s ∈ (addR d lg l).1.now, s.length = 48) ∧ ∀ j, j < lg.frm → (addR d lg l).1.now[j]? = d.now[j]?) ∧
    ((addR d lg l).2.2 = 10 → ∀ keep : Nat, (landW keep (addR d lg l).1.kept (addR d lg l).1.wr 0).length = d.now.length ∧ (∀ s ∈ landW keep (addR d lg l).1.kept (addR d lg l).1.wr 0, s.length = 48) ∧ ∀ j, j < lg.frm → (landW keep (addR d lg l).1.kept (addR d lg l).1.wr 0)[j]? = d.now[j]?) := by
  have hfit := h.fit
  have hus := h.used
  rcases add_cases d lg l with ⟨e, -⟩ | ⟨e, -⟩ | ⟨e1, e⟩ | ⟨e1, e2, e3, e⟩
  · rw [e]; exact ⟨fun h => absurd h (by decide), fun h => absurd h (by decide)⟩
  · rw [e]; exact ⟨fun h => absurd h (by decide), fun h => absurd h (by decide)⟩
  · rw [e]
    refine ⟨fun h => absurd h e1, fun h => ?_⟩
    dsimp only at h
    rcases chks_range l with h1 | h1 | h1
    · exact absurd h1 e1
    · rw [h1] at h; cases h
    · rw [h1] at h; cases h
  · have hAN : addN lg l ≤ lg.many - lg.used := by unfold addN; omega
    have hX := lgW_q (List.replicate (addN lg l) ⟨#[]⟩) d (lg.frm + lg.used) h.q (by rw [List.length_replicate]; omega) (fun s hs => by rw [(List.mem_replicate.1 hs).2]; exact Nat.zero_le _) h48
    generalize lgW d (lg.frm + lg.used) (List.replicate (addN lg l) ⟨#[]⟩) = X at *
    dsimp only at e
    rcases hX with ⟨x0, x1, x2, x3, x4⟩ | ⟨x0, x1⟩
    · rw [if_neg (by rw [x0]; decide)] at e
      have hY := lgW_q (deedS (lg.first + lg.used) l) X.1 (lg.frm + lg.used) x1 (by unfold deedS; rw [List.length_map, deedL_len, x3]; omega) (fun s hs => by
        unfold deedS at hs
        obtain ⟨x, hx, rfl⟩ := List.mem_map.1 hs
        rw [str_size]; exact deedL_small e3 x hx) x2
      generalize lgW X.1 (lg.frm + lg.used) (deedS (lg.first + lg.used) l) = Y at *
      rcases hY with ⟨y0, y1, y2, y3, y4⟩ | ⟨y0, y1⟩
      · rw [if_neg (by rw [y0]; decide)] at e
        rw [e]
        exact ⟨fun _ => ⟨y2, fun j hj => (y4 j (by omega)).trans (x4 j (by omega))⟩, fun h => absurd (show (0 : Int) = 10 from h) (by decide)⟩
      · rw [if_pos (by rw [y0]; decide)] at e
        rw [e]
        refine ⟨fun h => (by rw [show (Y.2 : Int) = 0 from h] at y0; cases y0), fun _ keep => ?_⟩
        obtain ⟨z0, z1, z2⟩ := y1 keep
        exact ⟨z0.trans x3, z1, fun j hj => (z2 j (by omega)).trans (x4 j (by omega))⟩
    · rw [if_pos (by rw [x0]; decide)] at e
      rw [e]
      refine ⟨fun h => (by rw [show (X.2 : Int) = 0 from h] at x0; cases x0), fun _ keep => ?_⟩
      obtain ⟨z0, z1, z2⟩ := x1 keep
      exact ⟨z0, z1, fun j hj => z2 j (by omega)⟩
/-- with another log -/
theorem SK.log {k k' : List (List UInt8)} {h : Hd3} {base : List Ch} {D D' : List (List Ch)} {u u' : Nat} (x : SK k h base D u) (hl : k'.length = k.length) (h48 : ∀ s ∈ k', s.length = 48) (hj : ∀ j, j < 102 → k'[j]? = k[j]?) (hi : LogInv h.first (logT k') D' u') (h1 : ∀ l ∈ D', chksC l = 0) (h2 : ∀ l ∈ D', l.length ≤ 62) (h3 : ∀ j, j ≤ D'.length → (foldR base (D'.take j)).length ≤ 60) : SK k' h base D' u' := by
  have hh := x.hok.1
  refine ⟨by rw [hl]; exact x.n, by rw [hl]; exact x.n2, h48, x.hok, (hj 0 (by omega)).trans x.sec0, ?_, x.good, x.ris, hi, h1, h2, h3⟩
  unfold halfT
  rw [seg_same (fun j _ h2 => hj j (by omega))]; exact x.txt
theorem SI.add {F : Nat} {x : Sto} {base : List Ch} {D : List (List Ch)} (h : SI F x base D) {l : List Ch} (h62 : l.length ≤ 62) (hc : chksC l = 0) (hr : l.length + 1 ≤ x.lg.many - x.lg.used) (h60 : (apL x.rows l).length ≤ 60) :
    (addC x l = 0 ∧ SI F (addS x l (apL x.rows l)) base (D ++ [l]) ∧ (addS x l (apL x.rows l)).rows = apL x.rows l ∧ (addS x l (apL x.rows l)).lg.used = x.lg.used + (l.length + 1) ∧ (addS x l (apL x.rows l)).d.now.length = x.d.now.length ∧ (x.d.left < 0 → (addS x l (apL x.rows l)).d.left = x.d.left)) ∨
    (addC x l = 10 ∧ 0 ≤ x.d.left ∧ (addS x l (apL x.rows l)).d.down = true ∧ (addS x l (apL x.rows l)).d.now.length = x.d.now.length ∧ ∀ keep : Nat, ∃ D' u', SK (landW keep (addS x l (apL x.rows l)).d.kept (addS x l (apL x.rows l)).d.wr 0) x.h base D' u' ∧ (foldR base D' = x.rows ∨ foldR base D' = apL x.rows l)) := by
  have hs := h.sk
  have hlg := h.lg
  have e1 : x.lg.frm = 102 := by rw [hlg]
  have e2 : x.lg.many = x.d.now.length - 102 := by rw [hlg]
  have e3 : x.lg.first = x.h.first := by rw [hlg]
  have hn := hs.n
  have hlT : (logT x.d.now).length = x.d.now.length - 102 := by unfold logT; simp
  have hu := hs.inv.le
  have hsec : secsOf x.d x.lg = logT x.d.now := by unfold secsOf logT; rw [e1, e2]
  have hp : AddPre x.d x.lg l D := ⟨h.q, by omega, by omega, by rw [hsec, e3]; exact hs.inv⟩
  have hd1 : ∀ y ∈ D ++ [l], chksC y = 0 := fun y hy => by
    rcases List.mem_append.1 hy with hy | hy
    · exact hs.dgood y hy
    · rw [List.mem_singleton.1 hy]; exact hc
  have hd2 : ∀ y ∈ D ++ [l], y.length ≤ 62 := fun y hy => by
    rcases List.mem_append.1 hy with hy | hy
    · exact hs.dlen y hy
    · rw [List.mem_singleton.1 hy]; exact h62
  have hfold : foldR base (D ++ [l]) = apL x.rows l := by rw [foldR_snoc, ← h.rows]
  have hd3 : ∀ j, j ≤ (D ++ [l]).length → (foldR base ((D ++ [l]).take j)).length ≤ 60 := fun j hj => by
    by_cases hjd : j ≤ D.length
    · rw [List.take_append_of_le_length hjd]; exact hs.rlen j hjd
    · rw [List.take_of_length_le (by simp at hj ⊢; omega), hfold]; exact h60
  obtain ⟨o1, o2⟩ := add_out hp hs.s48
  rw [e1] at o1 o2
  rcases add_spec hp with ⟨a0, a1, a2, a3, a4, a5, a6, a7⟩ | ⟨a0, a1, a2, a3, a4⟩ | ⟨a0, a1, a2, a3, a4⟩
  · left
    obtain ⟨p1, p2⟩ := o1 a0
    have eS : addS x l (apL x.rows l) = ⟨(addR x.d x.lg l).1, x.h, (addR x.d x.lg l).2.1, apL x.rows l⟩ := by unfold addS; rw [if_pos a0]
    have hi := a1.inv
    rw [a2] at hi
    dsimp only at hi
    have hsec2 : secsOf (addR x.d x.lg l).1 ⟨x.lg.frm, x.lg.many, x.lg.first, x.lg.used + (l.length + 1)⟩ = logT (addR x.d x.lg l).1.now := by unfold secsOf logT; dsimp only; rw [e1, e2, a3]
    rw [hsec2, e3] at hi
    have hsk : SK (addR x.d x.lg l).1.now x.h base (D ++ [l]) (x.lg.used + (l.length + 1)) := hs.log a3 p1 p2 hi hd1 hd2 hd3
    rw [eS]
    refine ⟨a0, ⟨a1.q, by dsimp only; rw [a2]; exact hsk, by dsimp only; rw [a2]; dsimp only; rw [e1, e2, e3, a3], hfold.symm, by dsimp only; rw [a2]; exact h.first⟩, rfl, by dsimp only; rw [a2], a3, a4⟩
  · right
    have eS : addS x l (apL x.rows l) = ⟨(addR x.d x.lg l).1, x.h, (addR x.d x.lg l).2.1, x.rows⟩ := by unfold addS; rw [if_neg (by rw [a0]; decide)]
    rw [eS]
    refine ⟨a0, a1, a2, a3, fun keep => ?_⟩
    obtain ⟨p0, p1, p2⟩ := o2 a0 keep
    have hk := a4 keep
    rw [e1, e2, e3, ← p0] at hk
    rcases hk with hk | hk
    · exact ⟨D, _, hs.log p0 p1 p2 hk hs.dgood hs.dlen hs.rlen, .inl h.rows.symm⟩
    · exact ⟨D ++ [l], _, hs.log p0 p1 p2 hk hd1 hd2 hd3, .inr hfold⟩
  · rcases a4 with e | e | e
    · omega
    · omega
    · exact absurd hc e
/-- as the document has it -/
def mdC (many : Nat) (rows l : List Ch) : Int := if 62 < l.length then 2 else if chksC l ≠ 0 then chksC l else if 60 < (apL rows l).length ∨ many < l.length + 1 then 9 else 0
def mdU (many used : Nat) (l : List Ch) : Nat := (if many - used < l.length + 1 then 0 else used) + (l.length + 1)
theorem commit_spec {F : Nat} {x : Sto} {base : List Ch} {D : List (List Ch)} (h : SI F x base D) (hF : F ≤ 800000) (l : List Ch) :
    (mdC x.lg.many x.rows l ≠ 0 ∧ mdC x.lg.many x.rows l ≠ 10 ∧ cmC x l = mdC x.lg.many x.rows l ∧ cmR x l = x) ∨
    (mdC x.lg.many x.rows l = 0 ∧ cmC x l = 0 ∧ (∃ base' D', SI (F + 100) (cmR x l) base' D') ∧ (cmR x l).rows = apL x.rows l ∧ (cmR x l).lg.used = mdU x.lg.many x.lg.used l ∧ (cmR x l).d.now.length = x.d.now.length ∧ (x.d.left < 0 → (cmR x l).d.left = x.d.left)) ∨
    (cmC x l = 10 ∧ mdC x.lg.many x.rows l = 0 ∧ 0 ≤ x.d.left ∧ (cmR x l).d.down = true ∧ (cmR x l).d.now.length = x.d.now.length ∧ ∀ keep : Nat, ∃ h' b' D' u', SK (landW keep (cmR x l).d.kept (cmR x l).d.wr 0) h' b' D' u' ∧ (foldR b' D' = x.rows ∨ foldR b' D' = apL x.rows l) ∧ h'.first ≤ F + 100) := by
  have hb := h.stb (by omega)
  by_cases h1 : 62 < l.length
  · left
    have e : mdC x.lg.many x.rows l = 2 := by unfold mdC; rw [if_pos h1]
    rw [e]
    exact ⟨by decide, by decide, by unfold cmC; rw [if_pos h1], by unfold cmR; rw [if_pos h1]⟩
  by_cases h2 : chksC l = 0
  rotate_left
  · left
    have e : mdC x.lg.many x.rows l = chksC l := by unfold mdC; rw [if_neg h1, if_pos h2]
    rw [e]
    refine ⟨h2, ?_, by unfold cmC; rw [if_neg h1, if_pos h2], by unfold cmR; rw [if_neg h1, if_pos h2]⟩
    rcases chks_range l with h3 | h3 | h3
    · exact absurd h3 h2
    · rw [h3]; decide
    · rw [h3]; decide
  by_cases h3 : 60 < (apL x.rows l).length ∨ x.lg.many < l.length + 1
  · left
    have e : mdC x.lg.many x.rows l = 9 := by unfold mdC; rw [if_neg h1, if_neg (by rw [h2]; decide), if_pos h3]
    rw [e]
    exact ⟨by decide, by decide, by unfold cmC; rw [if_neg h1, if_neg (by rw [h2]; decide), if_pos h3], by unfold cmR; rw [if_neg h1, if_neg (by rw [h2]; decide), if_pos h3]⟩
  right
  have e0 : mdC x.lg.many x.rows l = 0 := by unfold mdC; rw [if_neg h1, if_neg (by rw [h2]; decide), if_neg h3]
  have hC : cmC x l = if roomC x l ≠ 0 then roomC x l else addC (roomR x l) l := by unfold cmC; rw [if_neg h1, if_neg (by rw [h2]; decide), if_neg h3]
  have hR : cmR x l = if roomC x l ≠ 0 then roomR x l else addS (roomR x l) l (apL x.rows l) := by unfold cmR; rw [if_neg h1, if_neg (by rw [h2]; decide), if_neg h3]
  by_cases h4 : l.length + 1 ≤ x.lg.many - x.lg.used
  · have r1 : roomC x l = 0 := by unfold roomC; rw [if_pos h4]
    have r2 : roomR x l = x := by unfold roomR; rw [if_pos h4]
    rw [hC, hR, r1, r2, if_neg (by decide), if_neg (by decide)]
    rcases h.add (by omega) h2 h4 (by omega) with ⟨a0, a1, a2, a3, a4, a5⟩ | ⟨a0, a1, a2, a3, a4⟩
    · exact .inl ⟨e0, a0, ⟨_, _, a1.q, a1.sk, a1.lg, a1.rows, by have := a1.first; omega⟩, a2, by rw [a3]; unfold mdU; rw [if_neg (by omega)], a4, a5⟩
    · refine .inr ⟨a0, e0, a1, a2, a3, fun keep => ?_⟩
      obtain ⟨D', u', k1, k2⟩ := a4 keep
      refine ⟨_, _, D', u', k1, k2, ?_⟩
      have hlg := h.lg
      have hf := h.first
      rw [hlg] at hf
      exact Nat.le_trans hf (by omega)
  · have r1 : roomC x l = ckC x := by unfold roomC; rw [if_neg h4]
    have r2 : roomR x l = ckR x := by unfold roomR; rw [if_neg h4]
    rw [hC, hR, r1, r2]
    rcases ck_spec h (by omega) with ⟨c0, c1, c2, c3, c4, c5⟩ | ⟨c0, c1, c2, c3, c4⟩
    · rw [c0, if_neg (by decide), if_neg (by decide)]
      have hm : (ckR x).lg.many = x.lg.many := by
        have := c1.lg
        rw [this, h.lg]
        dsimp only
        rw [c4]
      have hadd := c1.add (l := l) (by omega) h2 (by rw [c3, hm]; omega) (by rw [c2]; omega)
      rw [c2] at hadd
      rcases hadd with ⟨a0, a1, a2, a3, a4, a5⟩ | ⟨a0, a1, a2, a3, a4⟩
      · exact .inl ⟨e0, a0, ⟨_, _, a1⟩, a2, by rw [a3, c3]; unfold mdU; rw [if_pos (by omega)], a4.trans c4, fun hl => (a5 (by rw [c5 hl]; exact hl)).trans (c5 hl)⟩
      · refine .inr ⟨a0, e0, ?_, a2, a3.trans c4, fun keep => ?_⟩
        · by_cases hneg : x.d.left < 0
          · have := c5 hneg; omega
          · omega
        · obtain ⟨D', u', k1, k2⟩ := a4 keep
          refine ⟨_, _, D', u', k1, k2, ?_⟩
          have hlg := c1.lg
          have hf := c1.first
          rw [hlg] at hf
          exact hf
    · rw [c0, if_pos (by decide), if_pos (by decide)]
      refine .inr ⟨rfl, e0, c1, c2, c3, fun keep => ?_⟩
      obtain ⟨h', b', D', u', k1, k2, k3⟩ := c4 keep
      exact ⟨h', b', D', u', k1, .inl k2, k3⟩
end Go.Proofs.YtikkakdeapbioaaDoor
