import PyProof.Rows.All
import Wide.All
import OpenK.AllK
import Wide.FinOn
import HandS.ForMost
import HandS.IsInst
import HandS.EndBits
import HandS.Wide
import HandS.WideBits
import HandS.TupAny
import HandS.Codes
import PySem.Challenge.RW_majordomo_k15_value_to_propose
set_option Elab.async false
set_option linter.all false
set_option maxRecDepth 100000
set_option maxHeartbeats 4000000

namespace My
open PySem PySem.Spec PyProof.Rows L2
/-! own words: tests, heaps, items -/
theorem ifd {p A B : Prop} [Decidable p] (h1 : p → A) (h2 : ¬ p → B) : if decide p = true then A else B := by
  by_cases h : p
  · rw [decide_eq_true h]; exact (if_pos rfl).mpr (h1 h)
  · rw [decide_eq_false h]; exact (if_neg Bool.false_ne_true).mpr (h2 h)
theorem ifn {p A B : Prop} [Decidable p] (h1 : ¬ p → A) (h2 : p → B) : if (!decide p) = true then A else B := by
  by_cases h : p
  · rw [decide_eq_true h]; exact (if_neg Bool.false_ne_true).mpr (h2 h)
  · rw [decide_eq_false h]; exact (if_pos rfl).mpr (h1 h)
theorem ift {p A B : Prop} [Decidable p] (h : p) (h1 : A) : if decide p = true then A else B := by
  rw [decide_eq_true h]; exact (if_pos rfl).mpr h1
theorem iff0 {p A B : Prop} [Decidable p] (h : ¬ p) (h1 : B) : if decide p = true then A else B := by
  rw [decide_eq_false h]; exact (if_neg Bool.false_ne_true).mpr h1
theorem ifnt {p A B : Prop} [Decidable p] (h : p) (h1 : B) : if (!decide p) = true then A else B := by
  rw [decide_eq_true h]; exact (if_neg Bool.false_ne_true).mpr h1
theorem ifbt {b : Bool} {A B : Prop} (h : b = true) (h1 : A) : if b = true then A else B := (if_pos h).mpr h1
theorem ifbf {b : Bool} {A B : Prop} (h : b = false) (h1 : B) : if b = true then A else B := by rw [h]; exact h1
theorem ifb2 {b : Bool} {A B : Prop} (h1 : b = true → A) (h2 : b = false → B) : if b = true then A else B := by
  cases b with
  | true => exact h1 rfl
  | false => exact h2 rfl
theorem same_upd {H : Hp} {p : Addr} {o : HO} (h : H p = none) : Same H (upd H p o) := fun b x e => by
  rw [upd_ne (ne_of_none e h)]
  exact e
theorem same_put {H H' : Hp} {p : Addr} {o : HO} (e : Same H H') (h : H p = none) : Same H (upd H' p o) := fun b x q => by
  rw [upd_ne (ne_of_none q h)]
  exact e b x q
theorem sqt_same {K : PySem.W.Frag} {H H' : Hp} {a : Addr} {xs : List V} (e : Same H H') (h : SqT K H a xs) : SqT K H' a xs := by
  rcases h with (h | ⟨o, h⟩) | h
  · exact .inl (.inl (e _ _ h))
  · exact .inl (.inr ⟨o, e _ _ h⟩)
  · exact .inr h
theorem sql {K : PySem.W.Frag} {H : Hp} {a : Addr} {xs : List V} (h : H a = some (.lst xs)) : SqL K H a xs := .inl (.inl h)
theorem sqt {K : PySem.W.Frag} {H : Hp} {a : Addr} {xs : List V} (h : H a = some (.tup xs)) : SqT K H a xs := .inl (.inl h)
theorem sz {n : Nat} (h : n ≤ 100000) : n ≤ sizeLine := Nat.le_trans h (by decide)
theorem szl {n : Nat} (h : n ≤ 100000) : n < sizeLine := Nat.lt_of_le_of_lt h (by decide)
theorem map_at {α : Type} {f : α → V} {xs : List α} {i : Nat} {y : V} (h : (xs.map f)[i]? = some y) : ∃ x, xs[i]? = some x ∧ y = f x := by
  rw [List.getElem?_map] at h
  cases e : xs[i]? with
  | none => rw [e] at h; cases h
  | some x => rw [e] at h; exact ⟨x, rfl, (Option.some.inj h).symm⟩
theorem at_map {α : Type} {f : α → V} {xs : List α} {i : Nat} {x : α} (h : xs[i]? = some x) : atI (xs.map f) (i : Int) = some (f x) := atI_nat (by rw [List.getElem?_map, h]; rfl)
theorem take_more {α : Type} {l : List α} {i : Nat} {x : α} (h : l[i]? = some x) : l.take (i + 1) = l.take i ++ [x] := by
  rw [List.take_add_one, h]; rfl
/-! deep data stands as long as what was tracked stands -/
mutual
theorem dp_same {K : PySem.W.Frag} {H H' : Hp} (e : Same H H') : ∀ (d : PyData) {v : V}, Dp K H v d → Dp K H' v d
  | _, _, .non => .non
  | _, _, .bl b => .bl b
  | _, _, .int i => .int i
  | _, _, .str x => .str x
  | .list ds, _, .lst h a => .lst (e.seq h) (dpa_same e ds a)
  | .tuple ds, _, .tup h a => .tup (sqt_same e h) (dpa_same e ds a)
theorem dpa_same {K : PySem.W.Frag} {H H' : Hp} (e : Same H H') : ∀ (ds : List PyData) {vs : List V}, DpAll K H vs ds → DpAll K H' vs ds
  | [], _, .nil => .nil
  | d :: ds, _, .cons h a => .cons (dp_same e d h) (dpa_same e ds a)
end
theorem dpa_len {K : PySem.W.Frag} {H : Hp} : ∀ {vs : List V} {ds : List PyData}, DpAll K H vs ds → vs.length = ds.length
  | _, _, .nil => rfl
  | _, _, .cons _ a => by rw [List.length_cons, List.length_cons, dpa_len a]
theorem dpa_at {K : PySem.W.Frag} {H : Hp} : ∀ {vs : List V} {ds : List PyData} {i : Nat} {v : V}, DpAll K H vs ds → vs[i]? = some v → ∃ d, ds[i]? = some d ∧ Dp K H v d
  | _, _, _, _, .nil, h => by simp at h
  | _, _, 0, _, .cons h _, e => ⟨_, rfl, by have := Option.some.inj e; subst this; exact h⟩
  | _, _, i + 1, _, .cons _ a, e => dpa_at (i := i) a (by simpa using e)
theorem dpa_app {K : PySem.W.Frag} {H : Hp} : ∀ {vs ws : List V} {ds es : List PyData}, DpAll K H vs ds → DpAll K H ws es → DpAll K H (vs ++ ws) (ds ++ es)
  | _, _, _, _, .nil, b => b
  | _, _, _, _, .cons h a, b => .cons h (dpa_app a b)
theorem eqv_self {d : PyData} (h : SeqAt.shaped d = true) : PyData.eqv d d = true := SeqAt.eqv_refl d (SeqAt.canLay_of_shaped h)
/-! data that may be compared -/
theorem layAll : ∀ {ds : List PyData}, (∀ d ∈ ds, d.canLay0 = true) → PyData.canLayAll0 ds = true
  | [], _ => rfl
  | d :: ds, h => by
    rw [PyData.canLayAll0, h d List.mem_cons_self, layAll fun e he => h e (List.mem_cons_of_mem _ he)]; rfl
theorem depAll {n : Nat} : ∀ {ds : List PyData}, (∀ d ∈ ds, d.depth ≤ n) → PyData.depthAll ds ≤ n
  | [], _ => Nat.zero_le _
  | d :: ds, h => by
    have h1 := h d List.mem_cons_self
    have h2 := depAll (ds := ds) fun e he => h e (List.mem_cons_of_mem _ he)
    simp only [PyData.depthAll]
    omega
/-- plain data of at most this depth -/
def Flat (n : Nat) (d : PyData) : Prop := d.canLay0 = true ∧ d.depth ≤ n
theorem flat_list {n : Nat} {ds : List PyData} (h : ∀ d ∈ ds, Flat n d) : Flat (n + 1) (.list ds) :=
  ⟨by rw [PyData.canLay0]; exact layAll fun d hd => (h d hd).1, by have := depAll (n := n) fun d hd => (h d hd).2; simp only [PyData.depth]; omega⟩
theorem flat_tup {n : Nat} {ds : List PyData} (h : ∀ d ∈ ds, Flat n d) : Flat (n + 1) (.tuple ds) :=
  ⟨by rw [PyData.canLay0]; exact layAll fun d hd => (h d hd).1, by have := depAll (n := n) fun d hd => (h d hd).2; simp only [PyData.depth]; omega⟩
theorem flat_int (n : Nat) (i : Int) : Flat n (.int i) := ⟨rfl, by simp [PyData.depth]⟩
theorem flat_str (n : Nat) (x : Str) (h : (PyData.str x).canLay0 = true := by decide +kernel) : Flat n (.str x) := ⟨h, by simp [PyData.depth]⟩
theorem flat_bl (n : Nat) (b : Bool) : Flat n (.bool b) := ⟨rfl, by simp [PyData.depth]⟩
theorem flat_non (n : Nat) : Flat n .none := ⟨rfl, by simp [PyData.depth]⟩
theorem Flat.mono {n m : Nat} {d : PyData} (h : Flat n d) (hm : n ≤ m) : Flat m d := ⟨h.1, Nat.le_trans h.2 hm⟩
theorem Flat.sh {n : Nat} {d : PyData} (h : Flat n d) (hn : n ≤ 64) : SeqAt.shaped d = true := by
  show (d.canLay0 && decide (d.depth ≤ 64)) = true
  rw [Bool.and_eq_true]
  exact ⟨h.1, decide_eq_true (Nat.le_trans h.2 hn)⟩
theorem tyx_t {K : PySem.W.Frag} {H : Hp} {a : Addr} {xs : List V} (h : SqT K H a xs) : TyX K H (.ref a) (.type "tuple") := by
  rcases h with (h | ⟨o, h⟩) | ⟨o, its, n, h, hc, _⟩
  · exact .base (.tup h)
  · exact .fTuple h
  · exact .kTuple h hc
theorem tyx_l {K : PySem.W.Frag} {H : Hp} {a : Addr} {xs : List V} (h : SqL K H a xs) : TyX K H (.ref a) (.type "list") := by
  rcases h with (h | ⟨o, h⟩) | ⟨o, its, n, h, hc, _⟩
  · exact .base (.lst h)
  · exact .base (.frz h)
  · exact .kList h hc
theorem same_both {G H : Hp} {t : Addr} {x : HO} (e : Same G H) : Same (upd G t x) (upd H t x) := fun b o h => by
  by_cases hb : b = t
  · subst hb; rw [upd_same] at h ⊢; exact h
  · rw [upd_ne hb] at h ⊢; exact e b o h
end My
local macro_rules | `(tactic| walk_at "rd") => `(tactic| first
  | refine ⟨_, rfl, ?_⟩
  | refine ⟨_, _, rfl, rfl, ?_⟩
  | refine ⟨rfl, ?_⟩)
local macro_rules | `(tactic| walk_at "rds") => `(tactic| repeat (walk_at "rd"))
namespace My
open PySem PySem.Spec PyProof.Rows L2
def topS (i : Nat) : Stmt := PySem.Challenge.pw_majordomo_k15_value_to_propose.main.body.getD i (.Pass ⟨0, 0, 0, 0⟩)
abbrev s_value_to_propose : Stmt := (topS 2)
theorem sc_value_to_propose : FnScope ["pairs", "best", "value", "ballot", "accepted"] ["pairs"] (defScope s_value_to_propose) := ⟨rfl, rfl, rfl, by decide +kernel, rfl, by decide +kernel, by decide +kernel⟩
abbrev s__law_cell : Stmt := (topS 4)
theorem sc__law_cell : FnScope ["script", "k"] ["script", "k"] (defScope s__law_cell) := ⟨rfl, rfl, rfl, by decide +kernel, rfl, by decide +kernel, by decide +kernel⟩
abbrev s_law : Stmt := (topS 5)
theorem sc_law : FnScope ["script", "many", "pairs", "k", "cell", "ballot", "expected", "best", "pair", "passed", "actual"] ["script"] (defScope s_law) := ⟨rfl, rfl, rfl, by decide +kernel, rfl, by decide +kernel, by decide +kernel⟩

structure TX (K : PySem.W.Frag) (mg : Str → Option Value) where
  a_value_to_propose : Addr
  d_value_to_propose : FuncData
  F_value_to_propose : Fun K "value_to_propose" "value_to_propose" s_value_to_propose a_value_to_propose d_value_to_propose
  b_value_to_propose : Binds K d_value_to_propose ["pairs"] []
  g_value_to_propose : mg "value_to_propose" = some (.ref a_value_to_propose)
  a__law_cell : Addr
  d__law_cell : FuncData
  F__law_cell : Fun K "_law_cell" "_law_cell" s__law_cell a__law_cell d__law_cell
  b__law_cell : Binds K d__law_cell ["script", "k"] []
  g__law_cell : mg "_law_cell" = some (.ref a__law_cell)
  a_law : Addr
  d_law : FuncData
  F_law : Fun K "law" "law" s_law a_law d_law
  b_law : Binds K d_law ["script"] []
  g_law : mg "law" = some (.ref a_law)
  ca_NOTHING : Addr
  c_NOTHING : mg "NOTHING" = some (.ref ca_NOTHING)
  q_NOTHING : ∀ H, SqT K H ca_NOTHING [(.str "nothing")]
  n_len : mg "len" = none
  n_min : mg "min" = none
  n_max : mg "max" = none
  n_range : mg "range" = none
  n_list : mg "list" = none
  n_isinstance : mg "isinstance" = none
  n_tuple : mg "tuple" = none

/-! a cell of the script, 0 beyond its end -/
def cellZ (ns : List Int) (k : Int) : Int := ns.getD k.toNat 0
def sp_cell (K : PySem.W.Frag) : Sp := fun vs H Q _ => ∃ (a : Addr) (ns : List Int) (k : Int), vs = [.ref a, .int k] ∧ SqL K H a (ns.map V.int) ∧ 0 ≤ k ∧ Q (.int (cellZ ns k)) H
section
variable {P : Program} {w : World} {K : PySem.W.Frag} {mg : Str → Option Value} {base : Heap}
theorem ok__law_cell (T : TX K mg) : FnOk P w K mg base CX0 1 T.a__law_cell T.d__law_cell ["script", "k"] (sp_cell K) := by
  refine T.F__law_cell.ok sc__law_cell (fun vs H Q E h => ?_) (fun cdv A outer s H vs Q E hr h => ?_)
  · obtain ⟨a, ns, k, rfl, _⟩ := h
    rfl
  · obtain ⟨a, ns, k, rfl, hS, h0, q⟩ := h
    refine ⟨_, (pss_cons (ps_if (pt_cmpR op_lt (pv 1) (pe_callB call_len_seq (by rfl) T.n_len PySem.boot_len (pa_cons (pv 0) pa_nil)) (nomark _)) (pss_one (ps_ret (pe_ix ix_list (pv 0) (pv 1) (fun _ _ => rfl)))) pss_nil)
      (pss_one (ps_ret pe_int))), ?_⟩
    refine ⟨.int k, rfl, .ref a, rfl, a, _, rfl, .inl hS, _, _, rfl, rfl, _, rfl, ifd (fun hc => ?_) (fun hc => ?_)⟩
    · rw [List.length_map] at hc
      have hk : k.toNat < ns.length := by omega
      have hg : ns[k.toNat]? = some (cellZ ns k) := by
        unfold cellZ
        rw [List.getD_eq_getElem?_getD, List.getElem?_eq_getElem hk]
        rfl
      refine ⟨.ref a, rfl, .int k, rfl, a, _, k, .int (cellZ ns k), rfl, rfl, hS, ?_, q⟩
      have := at_map (f := V.int) hg
      rwa [Int.toNat_of_nonneg h0] at this
    · rw [List.length_map] at hc
      have e : cellZ ns k = 0 := by
        unfold cellZ
        rw [List.getD_eq_getElem?_getD, List.getElem?_eq_none (by omega)]
        rfl
      rw [e] at q
      exact q
end
def nothingD : PyData := .tuple [.str "nothing"]
def prD (p : Int × PyData) : PyData := .tuple [.int p.1, p.2]
def better (s p : Int × PyData) : Int × PyData := if s.1 < p.1 then p else s
def bestOf (ds : List (Int × PyData)) : Int × PyData := ds.foldl better (-1, nothingD)
theorem best_more {ds : List (Int × PyData)} {i : Nat} {p : Int × PyData} (h : ds[i]? = some p) : bestOf (ds.take (i + 1)) = better (bestOf (ds.take i)) p := by
  unfold bestOf
  rw [take_more h, List.foldl_append]
  rfl
theorem best_all {R : PyData → Prop} (hN : R nothingD) : ∀ {ds : List (Int × PyData)}, (∀ p ∈ ds, R p.2) → R (bestOf ds).2 := by
  have go : ∀ (ds : List (Int × PyData)) (s : Int × PyData), R s.2 → (∀ p ∈ ds, R p.2) → R (ds.foldl better s).2 := by
    intro ds
    induction ds with
    | nil => intro s h _; exact h
    | cons p ds ih =>
      intro s h hp
      refine ih _ ?_ fun q hq => hp q (List.mem_cons_of_mem _ hq)
      unfold better
      split
      · exact hp p List.mem_cons_self
      · exact h
  intro ds h
  exact go ds _ hN h
def Tup1 (d : PyData) : Prop := Flat 1 d ∧ ∃ es, d = .tuple es
/-- what a pair in the heap is -/
theorem pair_of {K : PySem.W.Frag} {H : Hp} {x : V} {p : Int × PyData} (h : Dp K H x (prD p)) : ∃ a w, x = .ref a ∧ SqT K H a [.int p.1, w] ∧ Dp K H w p.2 := by
  cases h with
  | tup hs ha =>
    cases ha with
    | cons h1 h2 =>
      cases h1
      cases h2 with
      | cons h3 h4 =>
        cases h4
        exact ⟨_, _, rfl, hs, h3⟩
def sp_value (K : PySem.W.Frag) : Sp := fun vs H Q _ => ∃ (a : Addr) (xs : List V) (ds : List (Int × PyData)), vs = [.ref a] ∧ SqL K H a xs ∧ DpAll K H xs (ds.map prD) ∧ ∀ v, Dp K H v (bestOf ds).2 → Q v H
def sp_law (K : PySem.W.Frag) : Sp := fun vs H Q _ => ∃ (a : Addr) (ns : List Int), vs = [.ref a] ∧ SqL K H a (ns.map V.int) ∧ ns.length ≤ 63 ∧ ∀ H', Q (.bl true) H'
section
variable {P : Program} {w : World} {K : PySem.W.Frag} {mg : Str → Option Value} {base : Heap}
theorem dp_at {H : Hp} {xs : List V} {ds : List (Int × PyData)} {i : Nat} {x : V} (h : DpAll K H xs (ds.map prD)) (hx : xs[i]? = some x) : ∃ p, ds[i]? = some p ∧ Dp K H x (prD p) := by
  obtain ⟨d, hd, hD⟩ := dpa_at h hx
  rw [List.getElem?_map] at hd
  cases e : ds[i]? with
  | none => rw [e] at hd; cases hd
  | some p => rw [e] at hd; cases hd; exact ⟨p, rfl, hD⟩
theorem ok_value_to_propose (T : TX K mg) : FnOk P w K mg base CX0 1 T.a_value_to_propose T.d_value_to_propose ["pairs"] (sp_value K) := by
  refine T.F_value_to_propose.ok sc_value_to_propose (fun vs H Q E h => ?_) (fun cdv A outer s H vs Q E hr h => ?_)
  · obtain ⟨a, xs, ds, rfl, _⟩ := h
    rfl
  · obtain ⟨a, xs, ds, rfl, hS, hD, q⟩ := h
    refine ⟨_, (pss_cons (ps_set (i := 1) sc_value_to_propose.nd rfl (Or.inl rfl) (pe_un un_neg pe_int))
      (pss_cons (ps_set (i := 2) sc_value_to_propose.nd rfl (Or.inl rfl) (pe_glob (v := .ref T.ca_NOTHING) (by rfl) T.c_NOTHING rfl))
      (pss_cons (ps_for PassesOwn.never rfl (pi_list (pv 0)) (pg_tup (by rfl) (pgs_cons (pg_name (i := 3) sc_value_to_propose.nd rfl (Or.inl rfl)) (pgs_cons (pg_name (i := 4) sc_value_to_propose.nd rfl (Or.inl rfl)) pgs_nil)))
        (pss_one (ps_if (pt_cmpR op_gt (pv 3) (pv 1) (nomark _)) (pss_cons (ps_set (i := 1) sc_value_to_propose.nd rfl (Or.inl rfl) (pv 3))
          (pss_one (ps_set (i := 2) sc_value_to_propose.nd rfl (Or.inl rfl) (pv 4)))) pss_nil)))
      (pss_one (ps_ret (pv 2)))))), ?_⟩
    have hlen : xs.length = ds.length := by have := dpa_len hD; rwa [List.length_map] at this
    refine ⟨_, rfl, _, rfl, a, rfl, ⟨_, hS⟩, for_list (K := K) (a := a) (xs := xs) (fun i σ H2 => H = H2 ∧ ∃ v x3 x4, σ = [some (.ref a), some (.int (bestOf (ds.take i)).1), some v, x3, x4] ∧ Dp K H v (bestOf (ds.take i)).2)
      ⟨rfl, _, none, none, rfl, .tup (T.q_NOTHING H) (.cons (.str _) .nil)⟩ (fun i σ H2 _ ⟨e, _⟩ => by rw [← e]; exact hS) ?_ ?_⟩
    · rintro i x σ _ hx ⟨rfl, v, x3, x4, rfl, hv⟩
      obtain ⟨p, hp, hDp⟩ := dp_at hD hx
      obtain ⟨t, w, rfl, ht, hw⟩ := pair_of hDp
      have hm := best_more hp
      refine ⟨t, _, rfl, ht, rfl, .int p.1, [w], rfl, w, [], rfl, rfl, ?_⟩
      refine ⟨_, rfl, _, rfl, _, _, rfl, rfl, _, rfl, ifd (fun hc => ?_) (fun hc => ?_)⟩
      · refine ⟨_, rfl, w, rfl, rfl, w, some (.int p.1), some w, ?_, ?_⟩
        · rw [hm, better, if_pos hc]; rfl
        · rw [hm, better, if_pos hc]; exact hw
      · refine ⟨rfl, v, some (.int p.1), some w, ?_, ?_⟩
        · rw [hm, better, if_neg hc]; rfl
        · rw [hm, better, if_neg hc]; exact hv
    · rintro σ _ ⟨rfl, v, x3, x4, rfl, hv⟩
      rw [hlen, List.take_length] at hv
      exact ⟨v, rfl, q v hv⟩
theorem ok_law (T : TX K mg) : FnOk P w K mg base CX0 2 T.a_law T.d_law ["script"] (sp_law K) := by
  refine T.F_law.ok sc_law (fun vs H Q E h => ?_) (fun cdv A outer s H vs Q E hr h => ?_)
  · obtain ⟨a, ns, rfl, _⟩ := h
    rfl
  · obtain ⟨a, ns, rfl, hS, hlen, q⟩ := h
    refine ⟨_, (pss_cons (ps_if (pt_cmpR (op_neD hr.units) (pe_glob (v := .ref T.ca_NOTHING) (by rfl) T.c_NOTHING rfl) (pe_tup (pa_cons pe_str pa_nil)) (nomark _)) (pss_one (ps_ret pe_bl)) pss_nil)
      (pss_cons (ps_set (i := 1) sc_law.nd rfl (Or.inl rfl) (pe_callB (call_min2 rfl) (by rfl) T.n_min (by decide +kernel) (pa_cons (pe_op op_mod (pe_call (ok__law_cell T) (hr.mono (by decide)) (by rfl) T.g__law_cell T.F__law_cell.kp T.b__law_cell .nil pass0 (pa_cons (pv 0) (pa_cons pe_int pa_nil))) pe_int) (pa_cons (pe_op op_add (pe_callB (call_max2 rfl) (by rfl) T.n_max (by decide +kernel) (pa_cons pe_int (pa_cons (pe_op op_sub (pe_callB call_len_seq (by rfl) T.n_len PySem.boot_len (pa_cons (pv 0) pa_nil)) pe_int) pa_nil))) pe_int) pa_nil))))
      (pss_cons (ps_set (i := 2) sc_law.nd rfl (Or.inl rfl) (pe_lst pa_nil))
      (pss_cons (ps_for PassesOwn.never rfl (pi_range1 (by rfl) T.n_range (pa_cons (pv 1) pa_nil)) (pg_name (i := 3) sc_law.nd rfl (Or.inl rfl))
        (pss_cons (ps_set (i := 4) sc_law.nd rfl (Or.inl rfl) (pe_call (ok__law_cell T) (hr.mono (by decide)) (by rfl) T.g__law_cell T.F__law_cell.kp T.b__law_cell .nil pass0 (pa_cons (pv 0) (pa_cons (pe_op op_add pe_int (pv 3)) pa_nil))))
        (pss_cons (ps_set (i := 5) sc_law.nd rfl (Or.inl rfl) (pe_op op_mod (pv 4) pe_int))
        (C8.pss_cut (ps_if (pt_cmpR op_eq (pe_op op_mod (pe_op op_fdiv (pe_call (ok__law_cell T) (hr.mono (by decide)) (by rfl) T.g__law_cell T.F__law_cell.kp T.b__law_cell .nil pass0 (pa_cons (pv 0) (pa_cons pe_int pa_nil))) pe_int) pe_int) pe_int (nomark _)) (pss_one (ps_set (i := 5) sc_law.nd rfl (Or.inl rfl) (pe_op op_mod (pv 4) (pe_op op_pow pe_int pe_int)))) pss_nil)
        (pss_one (ps_expr (pe_bm PySem.F.plainAttrs_list PySem.F.slot_list_append PySem.F.type_list_append mt_append (pv 2) (pa_cons (pe_tup (pa_cons (pv 5) (pa_cons (pe_tup (pa_cons pe_str (pa_cons (pv 3) (pa_cons (pe_op op_mod (pe_op op_fdiv (pv 4) pe_int) pe_int) pa_nil)))) pa_nil))) pa_nil))))))))
      (pss_cons (ps_set (i := 6) sc_law.nd rfl (Or.inl rfl) (pe_tup (pa_cons pe_str pa_nil)))
      (pss_cons (ps_set (i := 7) sc_law.nd rfl (Or.inl rfl) (pe_un un_neg pe_int))
      (pss_cons (ps_for PassesOwn.never rfl (pi_list (pv 2)) (pg_name (i := 8) sc_law.nd rfl (Or.inl rfl))
        (pss_one (ps_if (pt_cmpR op_gt (pe_ix ix_tup (pv 8) pe_int (fun _ _ => rfl)) (pv 7) (nomark _)) (pss_cons (ps_set (i := 7) sc_law.nd rfl (Or.inl rfl) (pe_ix ix_tup (pv 8) pe_int (fun _ _ => rfl)))
          (pss_one (ps_set (i := 6) sc_law.nd rfl (Or.inl rfl) (pe_ix ix_tup (pv 8) pe_int (fun _ _ => rfl))))) pss_nil)))
      (pss_cons (ps_set (i := 9) sc_law.nd rfl (Or.inl rfl) (pe_callTy call_list_of (by rfl) T.n_list (by decide +kernel) (pa_cons (pv 2) pa_nil)))
      (pss_cons (ps_set (i := 10) sc_law.nd rfl (Or.inl rfl) (pe_call (ok_value_to_propose T) (hr.mono (by decide)) (by rfl) T.g_value_to_propose T.F_value_to_propose.kp T.b_value_to_propose .nil pass0 (pa_cons (pv 9) pa_nil)))
      (pss_cons (ps_if (PW.pt (pw_or (pt_cmpR (op_neD hr.units) (pv 9) (pv 2) (nomark _)) (pw_or (pt_not (pt_val (pe_callB call_isi (by rfl) T.n_isinstance (by decide +kernel) (pa_cons (pv 10) (pa_cons (pe_bltn (v := .ty "tuple") (u := .type "tuple") (by rfl) T.n_tuple (by decide +kernel) rfl) pa_nil))))) (pw_or1 (pt_cmpR (op_neD hr.units) (pv 10) (pv 6) (nomark _)))))) (pss_one (ps_ret pe_bl)) pss_nil)
      (pss_one (ps_ret (pe_cmpR (op_eqD hr.units) (pe_call (ok_value_to_propose T) (hr.mono (by decide)) (by rfl) T.g_value_to_propose T.F_value_to_propose.kp T.b_value_to_propose .nil pass0 (pa_cons (pe_lst pa_nil) pa_nil)) (pe_tup (pa_cons pe_str pa_nil)) (nomark _)))))))))))))), ?_⟩
    have fN : Flat 1 nothingD := flat_tup (n := 0) (fun d hd => by rw [List.mem_singleton] at hd; subst hd; exact flat_str _ _)
    -- NOTHING != ('nothing',)
    refine ⟨(by show 1 ≤ sizeLine; decide), fun p0 hp0 => ?_⟩
    refine ⟨nothingD, nothingD, .tup (T.q_NOTHING _) (.cons (.str _) .nil), .tup (sqt upd_same) (.cons (.str _) .nil), fN.sh (by decide), fN.sh (by decide), _, rfl, ifbf (by rw [eqv_self (fN.sh (by decide))]; rfl) ?_⟩
    have s0 := same_upd (o := .tup [.str "nothing"]) hp0
    have hS0 := s0.seq hS
    generalize upd H p0 (.tup [.str "nothing"]) = H0 at s0 hS0
    -- many
    refine ⟨_, rfl, a, ns, 0, rfl, hS0, by decide, _, _, rfl, rfl, (by show (0 : Int) < _; decide), _, rfl, a, _, rfl, .inl hS0, _, _, rfl, rfl, _, _, rfl, _, _, rfl, rfl, _, _, rfl, ?_⟩
    dsimp only
    have hm0 : 0 ≤ (if (if (((ns.map V.int).length : Int) - 1) > 0 then (((ns.map V.int).length : Int) - 1) else 0) + 3 < cellZ ns 0 % 13 then (if (((ns.map V.int).length : Int) - 1) > 0 then (((ns.map V.int).length : Int) - 1) else 0) + 3 else cellZ ns 0 % 13) := by
      split
      · split <;> omega
      · omega
    have hm : (if (if (((ns.map V.int).length : Int) - 1) > 0 then (((ns.map V.int).length : Int) - 1) else 0) + 3 < cellZ ns 0 % 13 then (if (((ns.map V.int).length : Int) - 1) > 0 then (((ns.map V.int).length : Int) - 1) else 0) + 3 else cellZ ns 0 % 13) < 13 := by
      split <;> omega
    generalize (if (if (((ns.map V.int).length : Int) - 1) > 0 then (((ns.map V.int).length : Int) - 1) else 0) + 3 < cellZ ns 0 % 13 then (if (((ns.map V.int).length : Int) - 1) > 0 then (((ns.map V.int).length : Int) - 1) else 0) + 3 else cellZ ns 0 % 13) = m at hm hm0
    -- pairs = []
    refine ⟨Nat.zero_le _, fun o ho => ?_⟩
    have hoH := s0.free ho
    have s1 := s0.trans (same_upd (o := .lst []) ho)
    -- the pairs are made
    refine ⟨_, rfl, m, rfl, by omega, by omega, for_range (lo := 0) (n := m.toNat) (fun i σ H2 => ∃ (G : Hp) (xs : List V) (ds : List (Int × PyData)) (x3 x4 x5 : Option V), σ = [some (.ref a), some (.int m), some (.ref o), x3, x4, x5, none, none, none, none, none] ∧
        Same H G ∧ G o = none ∧ Same G H2 ∧ H2 o = some (.lst xs) ∧ DpAll K G xs (ds.map prD) ∧ ds.length = i ∧ ∀ p ∈ ds, Tup1 p.2)
      ⟨H, [], [], none, none, none, rfl, Same.refl _, hoH, s1, upd_same, .nil, rfl, fun _ h => by cases h⟩ ?_ ?_⟩
    · rintro i σ H2 hi ⟨G, xs, ds, x3, x4, x5, rfl, g1, g2, g3, g4, g5, g6, g7⟩
      have hS2 := (g1.trans g3).seq hS
      refine ⟨_, rfl, _, rfl, _, _, rfl, rfl, a, ns, _, rfl, hS2, by omega, ?_⟩
      dsimp only
      generalize cellZ ns (1 + (0 + (i : Int))) = c
      refine ⟨_, rfl, _, _, rfl, rfl, (by show (0 : Int) < _; decide), ?_⟩
      refine ⟨fun σ' H' => H2 = H' ∧ ∃ b : Int, σ' = [some (.ref a), some (.int m), some (.ref o), some (.int (0 + (i : Int))), some (.int c), some (.int b), none, none, none, none, none], ?_, ?_⟩
      · refine ⟨_, rfl, a, ns, 0, rfl, hS2, by decide, _, _, rfl, rfl, ⟨by decide, by decide⟩, _, _, rfl, rfl, (by show (0 : Int) < _; decide), rfl, _, rfl, ifd (fun hc => ?_) (fun hc => ?_)⟩
        · exact ⟨_, rfl, _, _, rfl, rfl, ⟨by decide, by decide, by decide⟩, _, _, rfl, rfl, (by show (0 : Int) < _; decide), rfl, _, rfl⟩
        · exact ⟨rfl, _, rfl⟩
      rintro σ' _ ⟨rfl, b, rfl⟩
      refine ⟨.ref o, rfl, .inl ⟨rfl, _, sql g4⟩, _, rfl, _, rfl, _, rfl, _, _, rfl, rfl, ⟨by decide, by decide⟩, _, _, rfl, rfl, (by show (0 : Int) < _; decide), (by show 3 ≤ sizeLine; decide), fun t1 h1 => ⟨(by show 2 ≤ sizeLine; decide), fun t2 h2 => ?_⟩⟩
      have n1 : o ≠ t1 := ne_of_none g4 h1
      have e1 : (upd H2 t1 (.tup [.str "v", .int (0 + (i : Int)), .int (c / 10 % 50)])) o = some (.lst xs) := by rw [upd_ne n1]; exact g4
      have n2 : o ≠ t2 := ne_of_none e1 h2
      have e2 : (upd (upd H2 t1 (.tup [.str "v", .int (0 + (i : Int)), .int (c / 10 % 50)])) t2 (.tup [.int b, .ref t1])) o = some (.lst xs) := by rw [upd_ne n2]; exact e1
      have lx : xs.length = i := by have := dpa_len g5; rw [List.length_map] at this; omega
      refine ⟨o, xs, _, rfl, rfl, e2, szl (by omega), ?_⟩
      have f1 : G t1 = none := g3.free h1
      have f2 : (upd G t1 (.tup [.str "v", .int (0 + (i : Int)), .int (c / 10 % 50)])) t2 = none := (same_both g3).free h2
      have sG := (same_upd (o := .tup [.str "v", .int (0 + (i : Int)), .int (c / 10 % 50)]) f1).trans (same_upd (o := .tup [.int b, .ref t1]) f2)
      have n12 : t1 ≠ t2 := fun z => by rw [z, upd_same] at f2; cases f2
      refine ⟨upd (upd G t1 _) t2 _, xs ++ [.ref t2], ds ++ [(b, .tuple [.str "v", .int (0 + (i : Int)), .int (c / 10 % 50)])], _, _, _, rfl, g1.trans sG, ?_, same_put (same_both (same_both g3)) ?_, upd_same, ?_, by rw [List.length_append, g6]; rfl, ?_⟩
      · rw [upd_ne n2, upd_ne n1]; exact g2
      · rw [upd_ne n2, upd_ne n1]; exact g2
      · rw [List.map_append]
        refine dpa_app (dpa_same sG _ g5) (.cons (.tup (sqt upd_same) (.cons (.int b) (.cons (.tup (sqt ?_) (.cons (.str _) (.cons (.int _) (.cons (.int _) .nil)))) .nil))) .nil)
        rw [upd_ne n12]
        exact upd_same
      · intro p hp
        rcases List.mem_append.mp hp with hp | hp
        · exact g7 p hp
        · rw [List.mem_singleton] at hp
          subst hp
          refine ⟨flat_tup (n := 0) fun d hd => ?_, _, rfl⟩
          simp only [List.mem_cons, List.not_mem_nil, or_false] at hd
          rcases hd with rfl | rfl | rfl
          · exact flat_str _ _
          · exact flat_int _ _
          · exact flat_int _ _
    rintro σ H2 ⟨G, xs, ds, x3, x4, x5, rfl, g1, g2, g3, g4, g5, g6, g7⟩
    have hD := dpa_same g3 _ g5
    have hlx : xs.length = ds.length := by have := dpa_len hD; rwa [List.length_map] at this
    have hfl : Flat 3 (.list (ds.map prD)) := flat_list (n := 2) fun d hd => by
      obtain ⟨p, hp, rfl⟩ := List.mem_map.mp hd
      refine flat_tup (n := 1) fun e he => ?_
      simp only [List.mem_cons, List.not_mem_nil, or_false] at he
      rcases he with rfl | rfl
      · exact flat_int _ _
      · exact (g7 p hp).1
    have htb : Tup1 (bestOf ds).2 := best_all ⟨fN, _, rfl⟩ g7
    have hfb := htb.1
    -- expected, best
    refine ⟨(by show 1 ≤ sizeLine; decide), fun p1 hp1 => ?_⟩
    have s2 := same_upd (o := .tup [.str "nothing"]) hp1
    have eN : (upd H2 p1 (.tup [.str "nothing"])) p1 = some (.tup [.str "nothing"]) := upd_same
    have hD3 := dpa_same s2 _ hD
    have hL3 := s2.seq (sql (K := K) g4)
    generalize upd H2 p1 (.tup [.str "nothing"]) = H3 at s2 eN hD3 hL3
    refine ⟨_, rfl, _, rfl, o, rfl, ⟨_, hL3⟩, for_list (K := K) (a := o) (xs := xs) (fun i σ H4 => H3 = H4 ∧ ∃ v x8, σ = [some (.ref a), some (.int m), some (.ref o), x3, x4, x5, some v, some (.int (bestOf (ds.take i)).1), x8, none, none] ∧ Dp K H3 v (bestOf (ds.take i)).2)
      ⟨rfl, _, none, rfl, .tup (sqt eN) (.cons (.str _) .nil)⟩ (fun i σ H4 _ ⟨e, _⟩ => by rw [← e]; exact hL3) ?_ ?_⟩
    · rintro i x σ _ hx ⟨rfl, v, x8, rfl, hv⟩
      obtain ⟨p, hp, hDp⟩ := dp_at hD3 hx
      obtain ⟨t, w, rfl, ht, hw⟩ := pair_of hDp
      have hm := best_more hp
      refine ⟨_, rfl, t, _, 0, .int p.1, rfl, rfl, ht, atI_nat (j := 0) rfl, _, rfl, _, _, rfl, rfl, _, rfl, ifd (fun hc => ?_) (fun hc => ?_)⟩
      · refine ⟨_, rfl, t, _, 0, .int p.1, rfl, rfl, ht, atI_nat (j := 0) rfl, _, rfl, t, _, 1, w, rfl, rfl, ht, atI_nat (j := 1) rfl, ?_⟩
        refine ⟨rfl, w, some (.ref t), ?_, ?_⟩
        · rw [hm, better, if_pos hc]; rfl
        · rw [hm, better, if_pos hc]; exact hw
      · refine ⟨rfl, v, some (.ref t), ?_, ?_⟩
        · rw [hm, better, if_neg hc]; rfl
        · rw [hm, better, if_neg hc]; exact hv
    rintro σ _ ⟨rfl, v, x8, rfl, hv⟩
    rw [hlx, List.take_length] at hv ⊢
    -- passed, actual
    refine ⟨_, rfl, o, xs, rfl, .inl hL3, fun l hl => ?_⟩
    have s4 := same_upd (o := .lst xs) hl
    refine ⟨_, rfl, l, xs, ds, rfl, sql upd_same, dpa_same s4 _ hD3, fun u hu => ?_⟩
    have hv4 := dp_same s4 _ hv
    -- passed != pairs ..
    refine ⟨_, rfl, _, rfl, _, _, .lst (sql upd_same) (dpa_same s4 _ hD3), .lst (s4.seq hL3) (dpa_same s4 _ hD3), hfl.sh (by decide), hfl.sh (by decide), _, rfl, ifbf (by rw [eqv_self (hfl.sh (by decide))]; rfl) ?_⟩
    have hty : ∃ q, u = .ref q ∧ TyX K (upd H3 l (.lst xs)) u (.type "tuple") := by
      obtain ⟨es, e⟩ := htb.2
      rw [e] at hu
      cases hu with
      | tup hs _ => exact ⟨_, rfl, tyx_t hs⟩
    obtain ⟨q1, rfl, ht⟩ := hty
    refine ⟨_, rfl, _, .ty "tuple", .type "tuple", .type "tuple", true, rfl, .ty _, ht, kit_ty (by decide +kernel), true, rfl, ?_⟩
    refine ⟨_, rfl, _, rfl, _, _, hu, hv4, hfb.sh (by decide), hfb.sh (by decide), _, rfl, ifbf (by rw [eqv_self (hfb.sh (by decide))]; rfl) ?_⟩
    -- of the empty list
    refine ⟨Nat.zero_le _, fun l2 hl2 => ⟨l2, [], [], rfl, sql upd_same, .nil, fun z hz => ⟨(by show 1 ≤ sizeLine; decide), fun p3 hp3 => ?_⟩⟩⟩
    refine ⟨nothingD, nothingD, dp_same (same_upd hp3) _ hz, .tup (sqt upd_same) (.cons (.str _) .nil), fN.sh (by decide), fN.sh (by decide), ?_⟩
    rw [eqv_self (fN.sh (by decide))]
    exact q _
end
theorem all_mk {l : PySem.W.OpenLaw} {w : World} {K : PySem.W.Frag} {h : Heap} {mg : Str → Option Value} {fa : Addr} (X : K.In h) (G : h.Ns mainGlobals mg) (hfa : mg "law" = some (.ref fa))
    {f_value_to_propose : Addr} {od_value_to_propose an_value_to_propose : Option Addr} {sl_value_to_propose : Array (Option Value)} {oc_value_to_propose kV_value_to_propose dc_value_to_propose pm_value_to_propose cd_value_to_propose ct_value_to_propose : Value} {f__law_cell : Addr} {od__law_cell an__law_cell : Option Addr} {sl__law_cell : Array (Option Value)} {oc__law_cell kV__law_cell dc__law_cell pm__law_cell cd__law_cell ct__law_cell : Value} {f_law : Addr} {od_law an_law : Option Addr} {sl_law : Array (Option Value)} {oc_law kV_law dc_law pm_law cd_law ct_law : Value} {ca_NOTHING : Addr} {cd0_NOTHING : Option Addr} {cn_NOTHING : Nat} {cs_NOTHING : Array (Option Value)} {cv_NOTHING : List Value}
    (g_value_to_propose : PySem.W.nsIn K mainGlobals "value_to_propose" = some (some (.ref f_value_to_propose)))
    (l_value_to_propose : K.lookup f_value_to_propose = some ⟨oc_value_to_propose, od_value_to_propose, .func (PySem.W.fnOf "value_to_propose" "value_to_propose" (defArgs s_value_to_propose) (defBody s_value_to_propose) (defScope s_value_to_propose) .none kV_value_to_propose dc_value_to_propose pm_value_to_propose an_value_to_propose cd_value_to_propose ct_value_to_propose), sl_value_to_propose⟩)
    (c_value_to_propose : PySem.W.codeIn K cd_value_to_propose "value_to_propose" = true)
    (k_value_to_propose : PySem.W.keepIn K (.ref f_value_to_propose) = true)
    (g__law_cell : PySem.W.nsIn K mainGlobals "_law_cell" = some (some (.ref f__law_cell)))
    (l__law_cell : K.lookup f__law_cell = some ⟨oc__law_cell, od__law_cell, .func (PySem.W.fnOf "_law_cell" "_law_cell" (defArgs s__law_cell) (defBody s__law_cell) (defScope s__law_cell) .none kV__law_cell dc__law_cell pm__law_cell an__law_cell cd__law_cell ct__law_cell), sl__law_cell⟩)
    (c__law_cell : PySem.W.codeIn K cd__law_cell "_law_cell" = true)
    (k__law_cell : PySem.W.keepIn K (.ref f__law_cell) = true)
    (g_law : PySem.W.nsIn K mainGlobals "law" = some (some (.ref f_law)))
    (l_law : K.lookup f_law = some ⟨oc_law, od_law, .func (PySem.W.fnOf "law" "law" (defArgs s_law) (defBody s_law) (defScope s_law) .none kV_law dc_law pm_law an_law cd_law ct_law), sl_law⟩)
    (c_law : PySem.W.codeIn K cd_law "law" = true)
    (k_law : PySem.W.keepIn K (.ref f_law) = true)
    (c_NOTHING : PySem.W.nsIn K mainGlobals "NOTHING" = some (some (.ref ca_NOTHING)))
    (q_NOTHING : K.lookup ca_NOTHING = some ⟨.type "tuple", cd0_NOTHING, .seq cv_NOTHING.toArray cn_NOTHING, cs_NOTHING⟩)
    (v_NOTHING : Vals [(.str "nothing")] cv_NOTHING)
    (n_len : PySem.W.nsIn K mainGlobals "len" = some none)
    (n_min : PySem.W.nsIn K mainGlobals "min" = some none)
    (n_max : PySem.W.nsIn K mainGlobals "max" = some none)
    (n_range : PySem.W.nsIn K mainGlobals "range" = some none)
    (n_list : PySem.W.nsIn K mainGlobals "list" = some none)
    (n_isinstance : PySem.W.nsIn K mainGlobals "isinstance" = some none)
    (n_tuple : PySem.W.nsIn K mainGlobals "tuple" = some none) :
    ∃ fd : FuncData, (∀ (s : Shared) (v : Value), BindsTo s fd ⟨[v], []⟩ [("script", v)]) ∧ ∀ base : Heap, K.In base → base.Ns mainGlobals mg → FnOk l.prog w K mg base CX0 2 fa fd ["script"] (sp_law K) := by
  have e : fa = f_law := by
    have z := hfa.symm.trans (PySem.W.mg_of X G g_law)
    injection z with z
    injection z
  rw [e]
  let T : TX K mg := ⟨f_value_to_propose, (PySem.W.fnOf "value_to_propose" "value_to_propose" (defArgs s_value_to_propose) (defBody s_value_to_propose) (defScope s_value_to_propose) .none kV_value_to_propose dc_value_to_propose pm_value_to_propose an_value_to_propose cd_value_to_propose ct_value_to_propose), (fun_mk (st := s_value_to_propose) l_value_to_propose c_value_to_propose k_value_to_propose), ((fun_mk (st := s_value_to_propose) l_value_to_propose c_value_to_propose k_value_to_propose).binds (ps := ["pairs"]) fun _ _ _ _ _ _ us hl => match us, hl with | [_], _ => rfl), (PySem.W.mg_of X G g_value_to_propose), f__law_cell, (PySem.W.fnOf "_law_cell" "_law_cell" (defArgs s__law_cell) (defBody s__law_cell) (defScope s__law_cell) .none kV__law_cell dc__law_cell pm__law_cell an__law_cell cd__law_cell ct__law_cell), (fun_mk (st := s__law_cell) l__law_cell c__law_cell k__law_cell), ((fun_mk (st := s__law_cell) l__law_cell c__law_cell k__law_cell).binds (ps := ["script", "k"]) fun _ _ _ _ _ _ us hl => match us, hl with | [_, _], _ => rfl), (PySem.W.mg_of X G g__law_cell), f_law, (PySem.W.fnOf "law" "law" (defArgs s_law) (defBody s_law) (defScope s_law) .none kV_law dc_law pm_law an_law cd_law ct_law), (fun_mk (st := s_law) l_law c_law k_law), ((fun_mk (st := s_law) l_law c_law k_law).binds (ps := ["script"]) fun _ _ _ _ _ _ us hl => match us, hl with | [_], _ => rfl), (PySem.W.mg_of X G g_law), ca_NOTHING, (PySem.W.mg_of X G c_NOTHING), (fun H => Or.inr ⟨_, cv_NOTHING.toArray, cn_NOTHING, q_NOTHING, rfl, rfl, (by rw [List.size_toArray, ← (Vals.length v_NOTHING)]; exact (by decide : 1 ≤ sizeLine)), (by simpa using v_NOTHING)⟩), (PySem.W.mg_none_of X G n_len), (PySem.W.mg_none_of X G n_min), (PySem.W.mg_none_of X G n_max), (PySem.W.mg_none_of X G n_range), (PySem.W.mg_none_of X G n_list), (PySem.W.mg_none_of X G n_isinstance), (PySem.W.mg_none_of X G n_tuple)⟩
  exact ⟨T.d_law, fun s v => .of_eq rfl, fun base _ _ => ok_law T⟩
end My
open PySem PySem.W PyProof.Rows
set_option maxHeartbeats 0 in
theorem PySem.Challenge.cw_majordomo_k15_value_to_propose_holds : PySem.Challenge.rw_majordomo_k15_value_to_propose.Holds := by
  w_on; o_law; k_head; (case hw => w_witness2)
  k_fill
  refine L2.walk_of (l := PySem.Challenge.rw_majordomo_k15_value_to_propose) (n := 63) (k := 2) (x := "script") (CX := (fun _ => L2.CX0)) (sp := fun w => My.sp_law _) rfl (by decide) rfl ⟨rfl, by decide, by decide⟩ (fun w h Y => PySem.W.kIn_of Y) ?F (fun _ _ a ns hl _ hS => ⟨a, ns, rfl, hS, hl, fun _ => rfl⟩) (fun _ _ _ _ _ h => h)
  case F =>
    intro w mg fa h KX G hmg
    refine' My.all_mk KX G hmg ?g_value_to_propose ?l_value_to_propose ?c_value_to_propose ?k_value_to_propose ?g__law_cell ?l__law_cell ?c__law_cell ?k__law_cell ?g_law ?l_law ?c_law ?k_law ?c_NOTHING ?q_NOTHING ?v_NOTHING ?n_len ?n_min ?n_max ?n_range ?n_list ?n_isinstance ?n_tuple
    (case g_value_to_propose => k_is); (case l_value_to_propose => k_is); (case c_value_to_propose => k_is); (case k_value_to_propose => k_is); (case g__law_cell => k_is); (case l__law_cell => k_is); (case c__law_cell => k_is); (case k__law_cell => k_is); (case g_law => k_is); (case l_law => k_is); (case c_law => k_is); (case k_law => k_is); (case c_NOTHING => k_is); (case q_NOTHING => k_is); (case v_NOTHING => (repeat (first | exact .nil | refine .cons ⟨_, rfl⟩ ?_ | refine .cons rfl ?_))); (case n_len => k_is); (case n_min => k_is); (case n_max => k_is); (case n_range => k_is); (case n_list => k_is); (case n_isinstance => k_is); (case n_tuple => k_is)

