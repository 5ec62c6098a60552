import PyProof.Rows.All
import Wide.All
import OpenK.AllK
import Wide.FinOn
import HandS.ForMost
import HandS.IsInst
import HandS.EndBits
import HandS.Wide
import HandS.WideBits
import HandS.TupAny
import HandS.Codes
import PySem.Challenge.RW_majordomo_k14_ballots
set_option Elab.async false
set_option linter.all false
set_option maxRecDepth 100000
set_option maxHeartbeats 4000000

namespace My
open PySem PySem.Spec PyProof.Rows L2
/-! own words: tests, heaps, items -/
theorem ifd {p A B : Prop} [Decidable p] (h1 : p → A) (h2 : ¬ p → B) : if decide p = true then A else B := by
  by_cases h : p
  · rw [decide_eq_true h]; exact (if_pos rfl).mpr (h1 h)
  · rw [decide_eq_false h]; exact (if_neg Bool.false_ne_true).mpr (h2 h)
theorem ifn {p A B : Prop} [Decidable p] (h1 : ¬ p → A) (h2 : p → B) : if (!decide p) = true then A else B := by
  by_cases h : p
  · rw [decide_eq_true h]; exact (if_neg Bool.false_ne_true).mpr (h2 h)
  · rw [decide_eq_false h]; exact (if_pos rfl).mpr (h1 h)
theorem ift {p A B : Prop} [Decidable p] (h : p) (h1 : A) : if decide p = true then A else B := by
  rw [decide_eq_true h]; exact (if_pos rfl).mpr h1
theorem iff0 {p A B : Prop} [Decidable p] (h : ¬ p) (h1 : B) : if decide p = true then A else B := by
  rw [decide_eq_false h]; exact (if_neg Bool.false_ne_true).mpr h1
theorem ifnt {p A B : Prop} [Decidable p] (h : p) (h1 : B) : if (!decide p) = true then A else B := by
  rw [decide_eq_true h]; exact (if_neg Bool.false_ne_true).mpr h1
theorem ifbt {b : Bool} {A B : Prop} (h : b = true) (h1 : A) : if b = true then A else B := (if_pos h).mpr h1
theorem ifbf {b : Bool} {A B : Prop} (h : b = false) (h1 : B) : if b = true then A else B := by rw [h]; exact h1
theorem ifb2 {b : Bool} {A B : Prop} (h1 : b = true → A) (h2 : b = false → B) : if b = true then A else B := by
  cases b with
  | true => exact h1 rfl
  | false => exact h2 rfl
theorem same_upd {H : Hp} {p : Addr} {o : HO} (h : H p = none) : Same H (upd H p o) := fun b x e => by
  rw [upd_ne (ne_of_none e h)]
  exact e
theorem same_put {H H' : Hp} {p : Addr} {o : HO} (e : Same H H') (h : H p = none) : Same H (upd H' p o) := fun b x q => by
  rw [upd_ne (ne_of_none q h)]
  exact e b x q
theorem sqt_same {K : PySem.W.Frag} {H H' : Hp} {a : Addr} {xs : List V} (e : Same H H') (h : SqT K H a xs) : SqT K H' a xs := by
  rcases h with (h | ⟨o, h⟩) | h
  · exact .inl (.inl (e _ _ h))
  · exact .inl (.inr ⟨o, e _ _ h⟩)
  · exact .inr h
theorem sql {K : PySem.W.Frag} {H : Hp} {a : Addr} {xs : List V} (h : H a = some (.lst xs)) : SqL K H a xs := .inl (.inl h)
theorem sqt {K : PySem.W.Frag} {H : Hp} {a : Addr} {xs : List V} (h : H a = some (.tup xs)) : SqT K H a xs := .inl (.inl h)
theorem sz {n : Nat} (h : n ≤ 100000) : n ≤ sizeLine := Nat.le_trans h (by decide)
theorem szl {n : Nat} (h : n ≤ 100000) : n < sizeLine := Nat.lt_of_le_of_lt h (by decide)
theorem map_at {α : Type} {f : α → V} {xs : List α} {i : Nat} {y : V} (h : (xs.map f)[i]? = some y) : ∃ x, xs[i]? = some x ∧ y = f x := by
  rw [List.getElem?_map] at h
  cases e : xs[i]? with
  | none => rw [e] at h; cases h
  | some x => rw [e] at h; exact ⟨x, rfl, (Option.some.inj h).symm⟩
theorem at_map {α : Type} {f : α → V} {xs : List α} {i : Nat} {x : α} (h : xs[i]? = some x) : atI (xs.map f) (i : Int) = some (f x) := atI_nat (by rw [List.getElem?_map, h]; rfl)
theorem take_more {α : Type} {l : List α} {i : Nat} {x : α} (h : l[i]? = some x) : l.take (i + 1) = l.take i ++ [x] := by
  rw [List.take_add_one, h]; rfl
/-! deep data stands as long as what was tracked stands -/
mutual
theorem dp_same {K : PySem.W.Frag} {H H' : Hp} (e : Same H H') : ∀ (d : PyData) {v : V}, Dp K H v d → Dp K H' v d
  | _, _, .non => .non
  | _, _, .bl b => .bl b
  | _, _, .int i => .int i
  | _, _, .str x => .str x
  | .list ds, _, .lst h a => .lst (e.seq h) (dpa_same e ds a)
  | .tuple ds, _, .tup h a => .tup (sqt_same e h) (dpa_same e ds a)
theorem dpa_same {K : PySem.W.Frag} {H H' : Hp} (e : Same H H') : ∀ (ds : List PyData) {vs : List V}, DpAll K H vs ds → DpAll K H' vs ds
  | [], _, .nil => .nil
  | d :: ds, _, .cons h a => .cons (dp_same e d h) (dpa_same e ds a)
end
theorem dpa_len {K : PySem.W.Frag} {H : Hp} : ∀ {vs : List V} {ds : List PyData}, DpAll K H vs ds → vs.length = ds.length
  | _, _, .nil => rfl
  | _, _, .cons _ a => by rw [List.length_cons, List.length_cons, dpa_len a]
theorem dpa_at {K : PySem.W.Frag} {H : Hp} : ∀ {vs : List V} {ds : List PyData} {i : Nat} {v : V}, DpAll K H vs ds → vs[i]? = some v → ∃ d, ds[i]? = some d ∧ Dp K H v d
  | _, _, _, _, .nil, h => by simp at h
  | _, _, 0, _, .cons h _, e => ⟨_, rfl, by have := Option.some.inj e; subst this; exact h⟩
  | _, _, i + 1, _, .cons _ a, e => dpa_at (i := i) a (by simpa using e)
theorem dpa_app {K : PySem.W.Frag} {H : Hp} : ∀ {vs ws : List V} {ds es : List PyData}, DpAll K H vs ds → DpAll K H ws es → DpAll K H (vs ++ ws) (ds ++ es)
  | _, _, _, _, .nil, b => b
  | _, _, _, _, .cons h a, b => .cons h (dpa_app a b)
theorem eqv_self {d : PyData} (h : SeqAt.shaped d = true) : PyData.eqv d d = true := SeqAt.eqv_refl d (SeqAt.canLay_of_shaped h)
/-- the module-level names of isinstance and its like: two built-in types -/
theorem kit_int_int {K : PySem.W.Frag} : PySem.W.kitOne K (.type "int") (.type "int") = some true := by first | rfl | decide +kernel
end My
local macro_rules | `(tactic| walk_at "rd") => `(tactic| first
  | refine ⟨_, rfl, ?_⟩
  | refine ⟨_, _, rfl, rfl, ?_⟩
  | refine ⟨rfl, ?_⟩)
local macro_rules | `(tactic| walk_at "rds") => `(tactic| repeat (walk_at "rd"))
namespace My
open PySem PySem.Spec PyProof.Rows L2
def topS (i : Nat) : Stmt := PySem.Challenge.pw_majordomo_k14_ballots.main.body.getD i (.Pass ⟨0, 0, 0, 0⟩)
abbrev s_majority : Stmt := (topS 1)
theorem sc_majority : FnScope ["count"] ["count"] (defScope s_majority) := ⟨rfl, rfl, rfl, by decide +kernel, rfl, by decide +kernel, by decide +kernel⟩
abbrev s_next_ballot : Stmt := (topS 2)
theorem sc_next_ballot : FnScope ["above", "index", "count", "ballot"] ["above", "index", "count"] (defScope s_next_ballot) := ⟨rfl, rfl, rfl, by decide +kernel, rfl, by decide +kernel, by decide +kernel⟩
abbrev s_owner : Stmt := (topS 3)
theorem sc_owner : FnScope ["ballot", "count"] ["ballot", "count"] (defScope s_owner) := ⟨rfl, rfl, rfl, by decide +kernel, rfl, by decide +kernel, by decide +kernel⟩
abbrev s__law_cell : Stmt := (topS 5)
theorem sc__law_cell : FnScope ["script", "k"] ["script", "k"] (defScope s__law_cell) := ⟨rfl, rfl, rfl, by decide +kernel, rfl, by decide +kernel, by decide +kernel⟩
abbrev s__law_is_integer : Stmt := (topS 6)
theorem sc__law_is_integer : FnScope ["actual"] ["actual"] (defScope s__law_is_integer) := ⟨rfl, rfl, rfl, by decide +kernel, rfl, by decide +kernel, by decide +kernel⟩
abbrev s_law : Stmt := (topS 7)
theorem sc_law : FnScope ["script", "count", "index", "above", "least", "start", "ballot", "named", "k", "none"] ["script"] (defScope s_law) := ⟨rfl, rfl, rfl, by decide +kernel, rfl, by decide +kernel, by decide +kernel⟩

structure TX (K : PySem.W.Frag) (mg : Str → Option Value) where
  a_majority : Addr
  d_majority : FuncData
  F_majority : Fun K "majority" "majority" s_majority a_majority d_majority
  b_majority : Binds K d_majority ["count"] []
  g_majority : mg "majority" = some (.ref a_majority)
  a_next_ballot : Addr
  d_next_ballot : FuncData
  F_next_ballot : Fun K "next_ballot" "next_ballot" s_next_ballot a_next_ballot d_next_ballot
  b_next_ballot : Binds K d_next_ballot ["above", "index", "count"] []
  g_next_ballot : mg "next_ballot" = some (.ref a_next_ballot)
  a_owner : Addr
  d_owner : FuncData
  F_owner : Fun K "owner" "owner" s_owner a_owner d_owner
  b_owner : Binds K d_owner ["ballot", "count"] []
  g_owner : mg "owner" = some (.ref a_owner)
  a__law_cell : Addr
  d__law_cell : FuncData
  F__law_cell : Fun K "_law_cell" "_law_cell" s__law_cell a__law_cell d__law_cell
  b__law_cell : Binds K d__law_cell ["script", "k"] []
  g__law_cell : mg "_law_cell" = some (.ref a__law_cell)
  a__law_is_integer : Addr
  d__law_is_integer : FuncData
  F__law_is_integer : Fun K "_law_is_integer" "_law_is_integer" s__law_is_integer a__law_is_integer d__law_is_integer
  b__law_is_integer : Binds K d__law_is_integer ["actual"] []
  g__law_is_integer : mg "_law_is_integer" = some (.ref a__law_is_integer)
  a_law : Addr
  d_law : FuncData
  F_law : Fun K "law" "law" s_law a_law d_law
  b_law : Binds K d_law ["script"] []
  g_law : mg "law" = some (.ref a_law)
  n_len : mg "len" = none
  n_isinstance : mg "isinstance" = none
  n_bool : mg "bool" = none
  n_int : mg "int" = none
  n_abs : mg "abs" = none
  n_range : mg "range" = none

/-! a cell of the script, 0 beyond its end -/
def cellZ (ns : List Int) (k : Int) : Int := ns.getD k.toNat 0
def sp_cell (K : PySem.W.Frag) : Sp := fun vs H Q _ => ∃ (a : Addr) (ns : List Int) (k : Int), vs = [.ref a, .int k] ∧ SqL K H a (ns.map V.int) ∧ 0 ≤ k ∧ Q (.int (cellZ ns k)) H
section
variable {P : Program} {w : World} {K : PySem.W.Frag} {mg : Str → Option Value} {base : Heap}
theorem ok__law_cell (T : TX K mg) : FnOk P w K mg base CX0 1 T.a__law_cell T.d__law_cell ["script", "k"] (sp_cell K) := by
  refine T.F__law_cell.ok sc__law_cell (fun vs H Q E h => ?_) (fun cdv A outer s H vs Q E hr h => ?_)
  · obtain ⟨a, ns, k, rfl, _⟩ := h
    rfl
  · obtain ⟨a, ns, k, rfl, hS, h0, q⟩ := h
    refine ⟨_, (pss_cons (ps_if (pt_cmpR op_lt (pv 1) (pe_callB call_len_seq (by rfl) T.n_len PySem.boot_len (pa_cons (pv 0) pa_nil)) (nomark _)) (pss_one (ps_ret (pe_ix ix_list (pv 0) (pv 1) (fun _ _ => rfl)))) pss_nil)
      (pss_one (ps_ret pe_int))), ?_⟩
    refine ⟨.int k, rfl, .ref a, rfl, a, _, rfl, .inl hS, _, _, rfl, rfl, _, rfl, ifd (fun hc => ?_) (fun hc => ?_)⟩
    · rw [List.length_map] at hc
      have hk : k.toNat < ns.length := by omega
      have hg : ns[k.toNat]? = some (cellZ ns k) := by
        unfold cellZ
        rw [List.getD_eq_getElem?_getD, List.getElem?_eq_getElem hk]
        rfl
      refine ⟨.ref a, rfl, .int k, rfl, a, _, k, .int (cellZ ns k), rfl, rfl, hS, ?_, q⟩
      have := at_map (f := V.int) hg
      rwa [Int.toNat_of_nonneg h0] at this
    · rw [List.length_map] at hc
      have e : cellZ ns k = 0 := by
        unfold cellZ
        rw [List.getD_eq_getElem?_getD, List.getElem?_eq_none (by omega)]
        rfl
      rw [e] at q
      exact q
end
/-! an int that is no bool -/
def sp_isint : Sp := fun vs H Q _ => ∃ (i : Int), vs = [.int i] ∧ Q (.bl true) H
section
variable {P : Program} {w : World} {K : PySem.W.Frag} {mg : Str → Option Value} {base : Heap}
theorem ok__law_is_integer (T : TX K mg) : FnOk P w K mg base CX0 1 T.a__law_is_integer T.d__law_is_integer ["actual"] sp_isint := by
  refine T.F__law_is_integer.ok sc__law_is_integer (fun vs H Q E h => ?_) (fun cdv A outer s H vs Q E hr h => ?_)
  · obtain ⟨i, rfl, _⟩ := h
    rfl
  · obtain ⟨i, rfl, q⟩ := h
    refine ⟨_, (pss_one (ps_ret (pe_and (pe_callB call_isi (by rfl) T.n_isinstance (by decide +kernel) (pa_cons (pv 0) (pa_cons (pe_bltn (v := .ty "int") (u := .type "int") (by rfl) T.n_int (by decide +kernel) rfl) pa_nil))) (pe_one (pe_not (pe_callB call_isi (by rfl) T.n_isinstance (by decide +kernel) (pa_cons (pv 0) (pa_cons (pe_bltn (v := .ty "bool") (u := .type "bool") (by rfl) T.n_bool (by decide +kernel) rfl) pa_nil)))))))), ?_⟩
    refine ⟨.int i, rfl, .int i, .ty "int", .type "int", .type "int", true, rfl, .ty _, .base (.int i), kit_ty (by decide +kernel), true, rfl, ifbt rfl ?_⟩
    refine ⟨.int i, rfl, .int i, .ty "bool", .type "int", .type "bool", false, rfl, .ty _, .base (.int i), kit_ty (by decide +kernel), false, rfl, ?_⟩
    exact q
end
def nextB (above index count : Int) : Int := if above - above % count + index ≤ above then above - above % count + index + count else above - above % count + index
def ownerB (ballot count : Int) : Int := if ballot = 0 then -1 else ballot % count
def sp_majority : Sp := fun vs H Q _ => ∃ (n : Int), vs = [.int n] ∧ Q (.int (n / 2 + 1)) H
def sp_next : Sp := fun vs H Q _ => ∃ (a i n : Int), vs = [.int a, .int i, .int n] ∧ 0 < n ∧ Q (.int (nextB a i n)) H
def sp_owner : Sp := fun vs H Q _ => ∃ (b n : Int), vs = [.int b, .int n] ∧ 0 < n ∧ Q (.int (ownerB b n)) H
def sp_law (K : PySem.W.Frag) : Sp := fun vs H Q _ => ∃ (a : Addr) (ns : List Int), vs = [.ref a] ∧ SqL K H a (ns.map V.int) ∧ ns.length ≤ 63 ∧ ∀ H', Q (.bl true) H'
section
variable {P : Program} {w : World} {K : PySem.W.Frag} {mg : Str → Option Value} {base : Heap}
theorem ok_majority (T : TX K mg) : FnOk P w K mg base CX0 1 T.a_majority T.d_majority ["count"] sp_majority := by
  refine T.F_majority.ok sc_majority (fun vs H Q E h => ?_) (fun cdv A outer s H vs Q E hr h => ?_)
  · obtain ⟨n, rfl, _⟩ := h
    rfl
  · obtain ⟨n, rfl, q⟩ := h
    refine ⟨_, (pss_one (ps_ret (pe_op op_add (pe_op op_fdiv (pv 0) pe_int) pe_int))), ?_⟩
    exact ⟨_, rfl, _, _, rfl, rfl, ⟨by decide, by decide⟩, _, _, rfl, rfl, q⟩
theorem ok_next_ballot (T : TX K mg) : FnOk P w K mg base CX0 1 T.a_next_ballot T.d_next_ballot ["above", "index", "count"] sp_next := by
  refine T.F_next_ballot.ok sc_next_ballot (fun vs H Q E h => ?_) (fun cdv A outer s H vs Q E hr h => ?_)
  · obtain ⟨a, i, n, rfl, _⟩ := h
    rfl
  · obtain ⟨a, i, n, rfl, hn, q⟩ := h
    refine ⟨_, (pss_cons (ps_set (i := 3) sc_next_ballot.nd rfl (Or.inl rfl) (pe_op op_add (pe_op op_sub (pv 0) (pe_op op_mod (pv 0) (pv 2))) (pv 1)))
      (pss_cons (ps_if (pt_cmpR op_le (pv 3) (pv 0) (nomark _)) (pss_one (ps_aug (i := 3) sc_next_ballot.nd rfl (Or.inl rfl) (pv 2) ip_add)) pss_nil)
      (pss_one (ps_ret (pv 3))))), ?_⟩
    refine ⟨_, rfl, _, rfl, _, rfl, _, _, rfl, rfl, hn, _, _, rfl, rfl, _, rfl, _, _, rfl, rfl, ?_⟩
    refine ⟨_, rfl, _, rfl, _, _, rfl, rfl, _, rfl, ifd (fun hc => ?_) (fun hc => ?_)⟩
    · refine ⟨_, rfl, _, rfl, _, _, rfl, rfl, _, rfl, ?_⟩
      unfold nextB at q
      rw [if_pos hc] at q
      exact q
    · refine ⟨_, rfl, ?_⟩
      unfold nextB at q
      rw [if_neg hc] at q
      exact q
theorem ok_owner (T : TX K mg) : FnOk P w K mg base CX0 1 T.a_owner T.d_owner ["ballot", "count"] sp_owner := by
  refine T.F_owner.ok sc_owner (fun vs H Q E h => ?_) (fun cdv A outer s H vs Q E hr h => ?_)
  · obtain ⟨b, n, rfl, _⟩ := h
    rfl
  · obtain ⟨b, n, rfl, hn, q⟩ := h
    refine ⟨_, (pss_cons (ps_if (pt_cmpR op_eq (pv 0) pe_int (nomark _)) (pss_one (ps_ret (pe_un un_neg pe_int))) pss_nil)
      (pss_one (ps_ret (pe_op op_mod (pv 0) (pv 1))))), ?_⟩
    refine ⟨_, rfl, rfl, _, rfl, ifd (fun hc => ?_) (fun hc => ?_)⟩
    · refine ⟨_, rfl, ?_⟩
      unfold ownerB at q
      rw [if_pos (V.int.inj hc)] at q
      exact q
    · refine ⟨_, rfl, _, rfl, _, _, rfl, rfl, hn, ?_⟩
      unfold ownerB at q
      rw [if_neg (fun z => hc (by rw [z]))] at q
      exact q
theorem next_gt {a i n : Int} (h0 : 0 ≤ a) (hn : 0 < n) (hi : 0 ≤ i) (hin : i < n) : a < nextB a i n ∧ nextB a i n ≤ a + n ∧ nextB a i n % n = i := by
  have e : a - a % n = n * (a / n) := by have := Int.mul_ediv_add_emod a n; omega
  have m0 := Int.emod_nonneg a (show n ≠ 0 by omega)
  have m1 := Int.emod_lt_of_pos a hn
  have r : (a - a % n + i) % n = i := by
    rw [e, Int.add_comm, Int.add_mul_emod_self_left]
    exact Int.emod_eq_of_lt hi hin
  unfold nextB
  split
  · refine ⟨by omega, by omega, ?_⟩
    rw [Int.add_emod_right]
    exact r
  · exact ⟨by omega, by omega, r⟩
theorem owner_pos {b n : Int} (h : 0 < b) : ownerB b n = b % n := by
  unfold ownerB
  rw [if_neg (by omega)]
/-- one start of the law's loop: everything it asks -/
theorem ok_law (T : TX K mg) : FnOk P w K mg base CX0 2 T.a_law T.d_law ["script"] (sp_law K) := by
  refine T.F_law.ok sc_law (fun vs H Q E h => ?_) (fun cdv A outer s H vs Q E hr h => ?_)
  · obtain ⟨a, ns, rfl, _⟩ := h
    rfl
  · obtain ⟨a, ns, rfl, hS, hlen, q⟩ := h
    refine ⟨_, (pss_cons (ps_set (i := 1) sc_law.nd rfl (Or.inl rfl) (pe_op op_add pe_int (pe_op op_mod (pe_call (ok__law_cell T) (hr.mono (by decide)) (by rfl) T.g__law_cell T.F__law_cell.kp T.b__law_cell .nil pass0 (pa_cons (pv 0) (pa_cons pe_int pa_nil))) pe_int)))
      (pss_cons (ps_set (i := 2) sc_law.nd rfl (Or.inl rfl) (pe_op op_mod (pe_call (ok__law_cell T) (hr.mono (by decide)) (by rfl) T.g__law_cell T.F__law_cell.kp T.b__law_cell .nil pass0 (pa_cons (pv 0) (pa_cons pe_int pa_nil))) (pv 1)))
      (pss_cons (ps_set (i := 3) sc_law.nd rfl (Or.inl rfl) (pe_callB call_abs (by rfl) T.n_abs (by decide +kernel) (pa_cons (pe_call (ok__law_cell T) (hr.mono (by decide)) (by rfl) T.g__law_cell T.F__law_cell.kp T.b__law_cell .nil pass0 (pa_cons (pv 0) (pa_cons pe_int pa_nil))) pa_nil)))
      (C8.pss_cut (ps_if (pt_cmpR op_eq (pe_op op_mod (pe_call (ok__law_cell T) (hr.mono (by decide)) (by rfl) T.g__law_cell T.F__law_cell.kp T.b__law_cell .nil pass0 (pa_cons (pv 0) (pa_cons pe_int pa_nil))) pe_int) pe_int (nomark _)) (pss_one (ps_set (i := 3) sc_law.nd rfl (Or.inl rfl) (pe_op op_mod (pv 3) pe_int))) pss_nil)
      (pss_cons (ps_set (i := 4) sc_law.nd rfl (Or.inl rfl) (pe_call (ok_majority T) (hr.mono (by decide)) (by rfl) T.g_majority T.F_majority.kp T.b_majority .nil pass0 (pa_cons (pv 1) pa_nil)))
      (pss_cons (ps_if (PW.pt (pw_or (pt_not (pt_val (pe_call (ok__law_is_integer T) (hr.mono (by decide)) (by rfl) T.g__law_is_integer T.F__law_is_integer.kp T.b__law_is_integer .nil pass0 (pa_cons (pv 4) pa_nil)))) (pw_or (pt_cmpR op_le (pe_op op_mul pe_int (pv 4)) (pv 1) (nomark _)) (pw_or1 (pt_cmpR op_gt (pe_op op_mul pe_int (pe_op op_sub (pv 4) pe_int)) (pv 1) (nomark _)))))) (pss_one (ps_ret pe_bl)) pss_nil)
      (pss_cons (ps_for PassesOwn.never rfl (pi_list (pe_lst (pa_cons pe_int (pa_cons (pv 3) (pa_cons (pe_op op_add (pv 3) pe_int) (pa_cons (pe_op op_sub (pv 1) pe_int) (pa_cons (pv 1) pa_nil))))))) (pg_name (i := 5) sc_law.nd rfl (Or.inl rfl))
        (pss_cons (ps_set (i := 6) sc_law.nd rfl (Or.inl rfl) (pe_call (ok_next_ballot T) (hr.mono (by decide)) (by rfl) T.g_next_ballot T.F_next_ballot.kp T.b_next_ballot .nil pass0 (pa_cons (pv 5) (pa_cons (pv 2) (pa_cons (pv 1) pa_nil)))))
        (pss_cons (ps_if (PW.pt (pw_or (pt_not (pt_val (pe_call (ok__law_is_integer T) (hr.mono (by decide)) (by rfl) T.g__law_is_integer T.F__law_is_integer.kp T.b__law_is_integer .nil pass0 (pa_cons (pv 6) pa_nil)))) (pw_or (pt_cmpR op_le (pv 6) (pv 5) (nomark _)) (pw_or (pt_cmpR op_gt (pv 6) (pe_op op_add (pv 5) (pv 1)) (nomark _)) (pw_or1 (pt_cmpR op_ne (pe_op op_mod (pv 6) (pv 1)) (pv 2) (nomark _))))))) (pss_one (ps_ret pe_bl)) pss_nil)
        (pss_cons (ps_set (i := 7) sc_law.nd rfl (Or.inl rfl) (pe_call (ok_owner T) (hr.mono (by decide)) (by rfl) T.g_owner T.F_owner.kp T.b_owner .nil pass0 (pa_cons (pv 6) (pa_cons (pv 1) pa_nil))))
        (pss_cons (ps_if (PW.pt (pw_or (pt_not (pt_val (pe_call (ok__law_is_integer T) (hr.mono (by decide)) (by rfl) T.g__law_is_integer T.F__law_is_integer.kp T.b__law_is_integer .nil pass0 (pa_cons (pv 7) pa_nil)))) (pw_or1 (pt_cmpR op_ne (pv 7) (pv 2) (nomark _))))) (pss_one (ps_ret pe_bl)) pss_nil)
        (pss_one (ps_for PassesOwn.never rfl (pi_range2 (by rfl) T.n_range (pa_cons pe_int (pa_cons (pv 1) pa_nil))) (pg_name (i := 8) sc_law.nd rfl (Or.inl rfl))
          (pss_one (ps_if (PW.pt (pw_and (pt_cmpR op_gt (pe_op op_sub (pv 6) (pv 8)) pe_int (nomark _)) (pw_and1 (pt_cmpR op_ne (pe_call (ok_owner T) (hr.mono (by decide)) (by rfl) T.g_owner T.F_owner.kp T.b_owner .nil pass0 (pa_cons (pe_op op_sub (pv 6) (pv 8)) (pa_cons (pv 1) pa_nil))) (pe_op op_mod (pe_op op_sub (pv 6) (pv 8)) (pv 1)) (nomark _))))) (pss_one (ps_ret pe_bl)) pss_nil)))))))))
      (pss_cons (ps_set (i := 9) sc_law.nd rfl (Or.inl rfl) (pe_call (ok_owner T) (hr.mono (by decide)) (by rfl) T.g_owner T.F_owner.kp T.b_owner .nil pass0 (pa_cons pe_int (pa_cons (pv 1) pa_nil))))
      (pss_one (ps_ret (pe_and (pe_call (ok__law_is_integer T) (hr.mono (by decide)) (by rfl) T.g__law_is_integer T.F__law_is_integer.kp T.b__law_is_integer .nil pass0 (pa_cons (pv 9) pa_nil)) (pe_one (pe_cmpR op_eq (pv 9) (pe_un un_neg pe_int) (nomark _)))))))))))))), ?_⟩
    -- count, index, above
    refine ⟨_, rfl, a, ns, 0, rfl, hS, by decide, _, _, rfl, rfl, (by show (0 : Int) < _; decide), _, _, rfl, rfl, ?_⟩
    dsimp only
    generalize hn : 1 + cellZ ns 0 % 5 = n
    have hn0 : 0 < n := by omega
    have hn5 : n ≤ 5 := by omega
    refine ⟨_, rfl, a, ns, 1, rfl, hS, by decide, _, rfl, _, _, rfl, rfl, hn0, ?_⟩
    dsimp only
    have hi0 := Int.emod_nonneg (cellZ ns 1) (show n ≠ 0 by omega)
    have hi1 := Int.emod_lt_of_pos (cellZ ns 1) hn0
    generalize cellZ ns 1 % n = i at hi0 hi1
    refine ⟨_, rfl, a, ns, 2, rfl, hS, by decide, _, rfl, ?_⟩
    dsimp only
    have habs : 0 ≤ (if cellZ ns 2 < 0 then - cellZ ns 2 else cellZ ns 2) := by split <;> omega
    generalize (if cellZ ns 2 < 0 then - cellZ ns 2 else cellZ ns 2) = b at habs
    -- above % 1000, or above: one value that is not negative
    refine ⟨fun σ' H' => H = H' ∧ ∃ c : Int, 0 ≤ c ∧ σ' = [some (.ref a), some (.int n), some (.int i), some (.int c), none, none, none, none, none, none], ?_, ?_⟩
    · refine ⟨_, rfl, a, ns, 3, rfl, hS, by decide, _, _, rfl, rfl, (by show (0 : Int) < _; decide), rfl, _, rfl, ifd (fun hc => ?_) (fun hc => ?_)⟩
      · exact ⟨_, rfl, _, _, rfl, rfl, (by show (0 : Int) < _; decide), rfl, b % 1000, Int.emod_nonneg _ (by decide), rfl⟩
      · exact ⟨rfl, b, habs, rfl⟩
    rintro σ' H' ⟨rfl, c, hc0, rfl⟩
    -- least
    refine ⟨_, rfl, n, rfl, ?_⟩
    refine ⟨_, rfl, _, rfl, true, rfl, ifbf rfl ?_⟩
    refine ⟨_, rfl, _, _, rfl, rfl, .inl ⟨by decide, by decide⟩, _, rfl, _, _, rfl, rfl, _, rfl, iff0 (by omega) ?_⟩
    refine ⟨_, rfl, _, _, rfl, rfl, _, _, rfl, rfl, .inl ⟨by decide, by decide⟩, _, rfl, _, _, rfl, rfl, _, rfl, iff0 (by omega) ?_⟩
    -- the loop
    refine ⟨_, rfl, _, rfl, _, _, rfl, rfl, _, rfl, _, _, rfl, rfl, _, rfl, (by show 5 ≤ sizeLine; decide), fun p hp => ?_⟩
    have s1 : Same H (upd H p (.lst ([0, c, c + 1, n - 1, n].map V.int))) := same_upd hp
    refine ⟨p, rfl, ⟨_, sql upd_same⟩, for_list (K := K) (a := p) (xs := [0, c, c + 1, n - 1, n].map V.int) (fun _ σ H2 => ∃ v5 v6 v7 v8, σ = [some (.ref a), some (.int n), some (.int i), some (.int c), some (.int (n / 2 + 1)), v5, v6, v7, v8, none] ∧ H2 = upd H p (.lst ([0, c, c + 1, n - 1, n].map V.int)))
      ⟨none, none, none, none, rfl, rfl⟩ (fun _ σ H2 _ ⟨_, _, _, _, _, e⟩ => by rw [e]; exact sql upd_same) ?_ ?_⟩
    · rintro k x σ H2 hx ⟨v5, v6, v7, v8, rfl, rfl⟩
      obtain ⟨z, hz, rfl⟩ := map_at hx
      have hz0 : 0 ≤ z := by
        have := List.mem_of_getElem? hz
        simp only [List.mem_cons, List.not_mem_nil, or_false] at this
        omega
      obtain ⟨g1, g2, g3⟩ := next_gt hz0 hn0 hi0 hi1
      have g4 : ownerB (nextB z i n) n = i := by rw [owner_pos (by omega)]; exact g3
      -- ballot
      refine ⟨_, rfl, _, rfl, _, rfl, z, i, n, rfl, hn0, ?_⟩
      refine ⟨_, rfl, _, rfl, true, rfl, ifbf rfl ?_⟩
      refine ⟨_, rfl, _, rfl, _, _, rfl, rfl, _, rfl, iff0 (by omega) ?_⟩
      refine ⟨_, rfl, _, rfl, _, rfl, _, _, rfl, rfl, _, _, rfl, rfl, _, rfl, iff0 (by omega) ?_⟩
      refine ⟨_, rfl, _, rfl, _, _, rfl, rfl, hn0, _, rfl, rfl, _, rfl, ifnt (congrArg V.int g3) ?_⟩
      -- named
      refine ⟨_, rfl, _, rfl, _, n, rfl, hn0, ?_⟩
      refine ⟨_, rfl, _, rfl, true, rfl, ifbf rfl ?_⟩
      refine ⟨_, rfl, _, rfl, rfl, _, rfl, ifnt (congrArg V.int g4) ?_⟩
      -- smaller ones
      refine ⟨_, rfl, 1, n, rfl, ⟨by decide, by decide, by omega, by omega⟩, for_range (lo := 1) (n := (n - 1).toNat) (fun _ σ H2 => ∃ v8, σ = [some (.ref a), some (.int n), some (.int i), some (.int c), some (.int (n / 2 + 1)), some (.int z), some (.int (nextB z i n)), some (.int (ownerB (nextB z i n) n)), v8, none] ∧ H2 = upd H p (.lst ([0, c, c + 1, n - 1, n].map V.int)))
        ⟨v8, rfl, rfl⟩ ?_ ?_⟩
      · rintro k' σ H2 hk' ⟨w8, rfl, rfl⟩
        refine ⟨_, rfl, _, rfl, _, _, rfl, rfl, _, _, rfl, rfl, _, rfl, ifd (fun hb => ?_) (fun hb => ?_)⟩
        · refine ⟨_, rfl, _, rfl, _, _, rfl, rfl, _, rfl, _, n, rfl, hn0, _, rfl, _, rfl, _, _, rfl, rfl, _, rfl, _, _, rfl, rfl, hn0, rfl, _, rfl, ifnt (congrArg V.int (owner_pos (by omega))) ?_⟩
          exact ⟨_, rfl, rfl⟩
        · exact ⟨_, rfl, rfl⟩
      · rintro σ H2 ⟨w8, rfl, rfl⟩
        exact ⟨_, _, _, _, rfl, rfl⟩
    · rintro σ H2 ⟨v5, v6, v7, v8, rfl, rfl⟩
      refine ⟨_, rfl, 0, n, rfl, hn0, ?_⟩
      refine ⟨_, rfl, _, rfl, true, rfl, ifbt rfl ?_⟩
      refine ⟨_, rfl, _, rfl, rfl, ?_⟩
      exact q _
end
theorem all_mk {l : PySem.W.OpenLaw} {w : World} {K : PySem.W.Frag} {h : Heap} {mg : Str → Option Value} {fa : Addr} (X : K.In h) (G : h.Ns mainGlobals mg) (hfa : mg "law" = some (.ref fa))
    {f_majority : Addr} {od_majority an_majority : Option Addr} {sl_majority : Array (Option Value)} {oc_majority kV_majority dc_majority pm_majority cd_majority ct_majority : Value} {f_next_ballot : Addr} {od_next_ballot an_next_ballot : Option Addr} {sl_next_ballot : Array (Option Value)} {oc_next_ballot kV_next_ballot dc_next_ballot pm_next_ballot cd_next_ballot ct_next_ballot : Value} {f_owner : Addr} {od_owner an_owner : Option Addr} {sl_owner : Array (Option Value)} {oc_owner kV_owner dc_owner pm_owner cd_owner ct_owner : Value} {f__law_cell : Addr} {od__law_cell an__law_cell : Option Addr} {sl__law_cell : Array (Option Value)} {oc__law_cell kV__law_cell dc__law_cell pm__law_cell cd__law_cell ct__law_cell : Value} {f__law_is_integer : Addr} {od__law_is_integer an__law_is_integer : Option Addr} {sl__law_is_integer : Array (Option Value)} {oc__law_is_integer kV__law_is_integer dc__law_is_integer pm__law_is_integer cd__law_is_integer ct__law_is_integer : Value} {f_law : Addr} {od_law an_law : Option Addr} {sl_law : Array (Option Value)} {oc_law kV_law dc_law pm_law cd_law ct_law : Value}
    (g_majority : PySem.W.nsIn K mainGlobals "majority" = some (some (.ref f_majority)))
    (l_majority : K.lookup f_majority = some ⟨oc_majority, od_majority, .func (PySem.W.fnOf "majority" "majority" (defArgs s_majority) (defBody s_majority) (defScope s_majority) .none kV_majority dc_majority pm_majority an_majority cd_majority ct_majority), sl_majority⟩)
    (c_majority : PySem.W.codeIn K cd_majority "majority" = true)
    (k_majority : PySem.W.keepIn K (.ref f_majority) = true)
    (g_next_ballot : PySem.W.nsIn K mainGlobals "next_ballot" = some (some (.ref f_next_ballot)))
    (l_next_ballot : K.lookup f_next_ballot = some ⟨oc_next_ballot, od_next_ballot, .func (PySem.W.fnOf "next_ballot" "next_ballot" (defArgs s_next_ballot) (defBody s_next_ballot) (defScope s_next_ballot) .none kV_next_ballot dc_next_ballot pm_next_ballot an_next_ballot cd_next_ballot ct_next_ballot), sl_next_ballot⟩)
    (c_next_ballot : PySem.W.codeIn K cd_next_ballot "next_ballot" = true)
    (k_next_ballot : PySem.W.keepIn K (.ref f_next_ballot) = true)
    (g_owner : PySem.W.nsIn K mainGlobals "owner" = some (some (.ref f_owner)))
    (l_owner : K.lookup f_owner = some ⟨oc_owner, od_owner, .func (PySem.W.fnOf "owner" "owner" (defArgs s_owner) (defBody s_owner) (defScope s_owner) .none kV_owner dc_owner pm_owner an_owner cd_owner ct_owner), sl_owner⟩)
    (c_owner : PySem.W.codeIn K cd_owner "owner" = true)
    (k_owner : PySem.W.keepIn K (.ref f_owner) = true)
    (g__law_cell : PySem.W.nsIn K mainGlobals "_law_cell" = some (some (.ref f__law_cell)))
    (l__law_cell : K.lookup f__law_cell = some ⟨oc__law_cell, od__law_cell, .func (PySem.W.fnOf "_law_cell" "_law_cell" (defArgs s__law_cell) (defBody s__law_cell) (defScope s__law_cell) .none kV__law_cell dc__law_cell pm__law_cell an__law_cell cd__law_cell ct__law_cell), sl__law_cell⟩)
    (c__law_cell : PySem.W.codeIn K cd__law_cell "_law_cell" = true)
    (k__law_cell : PySem.W.keepIn K (.ref f__law_cell) = true)
    (g__law_is_integer : PySem.W.nsIn K mainGlobals "_law_is_integer" = some (some (.ref f__law_is_integer)))
    (l__law_is_integer : K.lookup f__law_is_integer = some ⟨oc__law_is_integer, od__law_is_integer, .func (PySem.W.fnOf "_law_is_integer" "_law_is_integer" (defArgs s__law_is_integer) (defBody s__law_is_integer) (defScope s__law_is_integer) .none kV__law_is_integer dc__law_is_integer pm__law_is_integer an__law_is_integer cd__law_is_integer ct__law_is_integer), sl__law_is_integer⟩)
    (c__law_is_integer : PySem.W.codeIn K cd__law_is_integer "_law_is_integer" = true)
    (k__law_is_integer : PySem.W.keepIn K (.ref f__law_is_integer) = true)
    (g_law : PySem.W.nsIn K mainGlobals "law" = some (some (.ref f_law)))
    (l_law : K.lookup f_law = some ⟨oc_law, od_law, .func (PySem.W.fnOf "law" "law" (defArgs s_law) (defBody s_law) (defScope s_law) .none kV_law dc_law pm_law an_law cd_law ct_law), sl_law⟩)
    (c_law : PySem.W.codeIn K cd_law "law" = true)
    (k_law : PySem.W.keepIn K (.ref f_law) = true)
    (n_len : PySem.W.nsIn K mainGlobals "len" = some none)
    (n_isinstance : PySem.W.nsIn K mainGlobals "isinstance" = some none)
    (n_bool : PySem.W.nsIn K mainGlobals "bool" = some none)
    (n_int : PySem.W.nsIn K mainGlobals "int" = some none)
    (n_abs : PySem.W.nsIn K mainGlobals "abs" = some none)
    (n_range : PySem.W.nsIn K mainGlobals "range" = some none) :
    ∃ fd : FuncData, (∀ (s : Shared) (v : Value), BindsTo s fd ⟨[v], []⟩ [("script", v)]) ∧ ∀ base : Heap, K.In base → base.Ns mainGlobals mg → FnOk l.prog w K mg base CX0 2 fa fd ["script"] (sp_law K) := by
  have e : fa = f_law := by
    have z := hfa.symm.trans (PySem.W.mg_of X G g_law)
    injection z with z
    injection z
  rw [e]
  let T : TX K mg := ⟨f_majority, (PySem.W.fnOf "majority" "majority" (defArgs s_majority) (defBody s_majority) (defScope s_majority) .none kV_majority dc_majority pm_majority an_majority cd_majority ct_majority), (fun_mk (st := s_majority) l_majority c_majority k_majority), ((fun_mk (st := s_majority) l_majority c_majority k_majority).binds (ps := ["count"]) fun _ _ _ _ _ _ us hl => match us, hl with | [_], _ => rfl), (PySem.W.mg_of X G g_majority), f_next_ballot, (PySem.W.fnOf "next_ballot" "next_ballot" (defArgs s_next_ballot) (defBody s_next_ballot) (defScope s_next_ballot) .none kV_next_ballot dc_next_ballot pm_next_ballot an_next_ballot cd_next_ballot ct_next_ballot), (fun_mk (st := s_next_ballot) l_next_ballot c_next_ballot k_next_ballot), ((fun_mk (st := s_next_ballot) l_next_ballot c_next_ballot k_next_ballot).binds (ps := ["above", "index", "count"]) fun _ _ _ _ _ _ us hl => match us, hl with | [_, _, _], _ => rfl), (PySem.W.mg_of X G g_next_ballot), f_owner, (PySem.W.fnOf "owner" "owner" (defArgs s_owner) (defBody s_owner) (defScope s_owner) .none kV_owner dc_owner pm_owner an_owner cd_owner ct_owner), (fun_mk (st := s_owner) l_owner c_owner k_owner), ((fun_mk (st := s_owner) l_owner c_owner k_owner).binds (ps := ["ballot", "count"]) fun _ _ _ _ _ _ us hl => match us, hl with | [_, _], _ => rfl), (PySem.W.mg_of X G g_owner), f__law_cell, (PySem.W.fnOf "_law_cell" "_law_cell" (defArgs s__law_cell) (defBody s__law_cell) (defScope s__law_cell) .none kV__law_cell dc__law_cell pm__law_cell an__law_cell cd__law_cell ct__law_cell), (fun_mk (st := s__law_cell) l__law_cell c__law_cell k__law_cell), ((fun_mk (st := s__law_cell) l__law_cell c__law_cell k__law_cell).binds (ps := ["script", "k"]) fun _ _ _ _ _ _ us hl => match us, hl with | [_, _], _ => rfl), (PySem.W.mg_of X G g__law_cell), f__law_is_integer, (PySem.W.fnOf "_law_is_integer" "_law_is_integer" (defArgs s__law_is_integer) (defBody s__law_is_integer) (defScope s__law_is_integer) .none kV__law_is_integer dc__law_is_integer pm__law_is_integer an__law_is_integer cd__law_is_integer ct__law_is_integer), (fun_mk (st := s__law_is_integer) l__law_is_integer c__law_is_integer k__law_is_integer), ((fun_mk (st := s__law_is_integer) l__law_is_integer c__law_is_integer k__law_is_integer).binds (ps := ["actual"]) fun _ _ _ _ _ _ us hl => match us, hl with | [_], _ => rfl), (PySem.W.mg_of X G g__law_is_integer), f_law, (PySem.W.fnOf "law" "law" (defArgs s_law) (defBody s_law) (defScope s_law) .none kV_law dc_law pm_law an_law cd_law ct_law), (fun_mk (st := s_law) l_law c_law k_law), ((fun_mk (st := s_law) l_law c_law k_law).binds (ps := ["script"]) fun _ _ _ _ _ _ us hl => match us, hl with | [_], _ => rfl), (PySem.W.mg_of X G g_law), (PySem.W.mg_none_of X G n_len), (PySem.W.mg_none_of X G n_isinstance), (PySem.W.mg_none_of X G n_bool), (PySem.W.mg_none_of X G n_int), (PySem.W.mg_none_of X G n_abs), (PySem.W.mg_none_of X G n_range)⟩
  exact ⟨T.d_law, fun s v => .of_eq rfl, fun base _ _ => ok_law T⟩
end My
open PySem PySem.W PyProof.Rows
set_option maxHeartbeats 0 in
theorem PySem.Challenge.cw_majordomo_k14_ballots_holds : PySem.Challenge.rw_majordomo_k14_ballots.Holds := by
  w_on; o_law; k_head; (case hw => w_witness2)
  k_fill
  refine L2.walk_of (l := PySem.Challenge.rw_majordomo_k14_ballots) (n := 63) (k := 2) (x := "script") (CX := (fun _ => L2.CX0)) (sp := fun w => My.sp_law _) rfl (by decide) rfl ⟨rfl, by decide, by decide⟩ (fun w h Y => PySem.W.kIn_of Y) ?F (fun _ _ a ns hl _ hS => ⟨a, ns, rfl, hS, hl, fun _ => rfl⟩) (fun _ _ _ _ _ h => h)
  case F =>
    intro w mg fa h KX G hmg
    refine' My.all_mk KX G hmg ?g_majority ?l_majority ?c_majority ?k_majority ?g_next_ballot ?l_next_ballot ?c_next_ballot ?k_next_ballot ?g_owner ?l_owner ?c_owner ?k_owner ?g__law_cell ?l__law_cell ?c__law_cell ?k__law_cell ?g__law_is_integer ?l__law_is_integer ?c__law_is_integer ?k__law_is_integer ?g_law ?l_law ?c_law ?k_law ?n_len ?n_isinstance ?n_bool ?n_int ?n_abs ?n_range
    (case g_majority => k_is); (case l_majority => k_is); (case c_majority => k_is); (case k_majority => k_is); (case g_next_ballot => k_is); (case l_next_ballot => k_is); (case c_next_ballot => k_is); (case k_next_ballot => k_is); (case g_owner => k_is); (case l_owner => k_is); (case c_owner => k_is); (case k_owner => k_is); (case g__law_cell => k_is); (case l__law_cell => k_is); (case c__law_cell => k_is); (case k__law_cell => k_is); (case g__law_is_integer => k_is); (case l__law_is_integer => k_is); (case c__law_is_integer => k_is); (case k__law_is_integer => k_is); (case g_law => k_is); (case l_law => k_is); (case c_law => k_is); (case k_law => k_is); (case n_len => k_is); (case n_isinstance => k_is); (case n_bool => k_is); (case n_int => k_is); (case n_abs => k_is); (case n_range => k_is)

