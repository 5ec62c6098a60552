import PyProof.Rows.All
import Wide.All
import OpenK.AllK
import Wide.FinOn
import HandS.ForMost
import HandS.IsInst
import HandS.EndBits
import HandS.Wide
import HandS.WideBits
import HandS.TupAny
import HandS.Codes
import HandS.Defaults
import HandS.ForExc
import HandS.TryMany
import HandS.ExcIs
import HandS.TryElse
import HandS.DictComp
import HandS.Walk
import HandS.NoneIn
import HandS.MakeKwOnly
import HandS.NoneIn
import HandS.FStr
import HandS.Text
import HandS.TupLe
import HandS.TupMul
import HandS.Deep
import HandS.Steps
import HandS.CallLocal
import HandS.Lambda
import HandS.DictTup
import PyProof.DictMoreH
import KE.SortKeyHeap
import KE.SortUse
import HandS.Lambda
import HandS.EndTab
import PySem.Challenge.RW_majordomo_k35_commands_run_once
set_option Elab.async false
set_option linter.all false
set_option maxRecDepth 100000
set_option maxHeartbeats 4000000

namespace My
open PySem PySem.Spec PyProof.Rows L2
/-! own words: tests, heaps, items -/
theorem ifd {p A B : Prop} [Decidable p] (h1 : p → A) (h2 : ¬ p → B) : if decide p = true then A else B := by
  by_cases h : p
  · rw [decide_eq_true h]; exact (if_pos rfl).mpr (h1 h)
  · rw [decide_eq_false h]; exact (if_neg Bool.false_ne_true).mpr (h2 h)
theorem ifn {p A B : Prop} [Decidable p] (h1 : ¬ p → A) (h2 : p → B) : if (!decide p) = true then A else B := by
  by_cases h : p
  · rw [decide_eq_true h]; exact (if_neg Bool.false_ne_true).mpr (h2 h)
  · rw [decide_eq_false h]; exact (if_pos rfl).mpr (h1 h)
theorem ift {p A B : Prop} [Decidable p] (h : p) (h1 : A) : if decide p = true then A else B := by
  rw [decide_eq_true h]; exact (if_pos rfl).mpr h1
theorem iff0 {p A B : Prop} [Decidable p] (h : ¬ p) (h1 : B) : if decide p = true then A else B := by
  rw [decide_eq_false h]; exact (if_neg Bool.false_ne_true).mpr h1
theorem ifnt {p A B : Prop} [Decidable p] (h : p) (h1 : B) : if (!decide p) = true then A else B := by
  rw [decide_eq_true h]; exact (if_neg Bool.false_ne_true).mpr h1
theorem ifbt {b : Bool} {A B : Prop} (h : b = true) (h1 : A) : if b = true then A else B := (if_pos h).mpr h1
theorem ifbf {b : Bool} {A B : Prop} (h : b = false) (h1 : B) : if b = true then A else B := by rw [h]; exact h1
theorem ifb2 {b : Bool} {A B : Prop} (h1 : b = true → A) (h2 : b = false → B) : if b = true then A else B := by
  cases b with
  | true => exact h1 rfl
  | false => exact h2 rfl
theorem same_upd {H : Hp} {p : Addr} {o : HO} (h : H p = none) : Same H (upd H p o) := fun b x e => by
  rw [upd_ne (ne_of_none e h)]
  exact e
theorem same_put {H H' : Hp} {p : Addr} {o : HO} (e : Same H H') (h : H p = none) : Same H (upd H' p o) := fun b x q => by
  rw [upd_ne (ne_of_none q h)]
  exact e b x q
theorem sqt_same {K : PySem.W.Frag} {H H' : Hp} {a : Addr} {xs : List V} (e : Same H H') (h : SqT K H a xs) : SqT K H' a xs := by
  rcases h with (h | ⟨o, h⟩) | h
  · exact .inl (.inl (e _ _ h))
  · exact .inl (.inr ⟨o, e _ _ h⟩)
  · exact .inr h
theorem sql {K : PySem.W.Frag} {H : Hp} {a : Addr} {xs : List V} (h : H a = some (.lst xs)) : SqL K H a xs := .inl (.inl h)
theorem sqt {K : PySem.W.Frag} {H : Hp} {a : Addr} {xs : List V} (h : H a = some (.tup xs)) : SqT K H a xs := .inl (.inl h)
theorem sz {n : Nat} (h : n ≤ 100000) : n ≤ sizeLine := Nat.le_trans h (by decide)
theorem szl {n : Nat} (h : n ≤ 100000) : n < sizeLine := Nat.lt_of_le_of_lt h (by decide)
theorem map_at {α : Type} {f : α → V} {xs : List α} {i : Nat} {y : V} (h : (xs.map f)[i]? = some y) : ∃ x, xs[i]? = some x ∧ y = f x := by
  rw [List.getElem?_map] at h
  cases e : xs[i]? with
  | none => rw [e] at h; cases h
  | some x => rw [e] at h; exact ⟨x, rfl, (Option.some.inj h).symm⟩
theorem at_map {α : Type} {f : α → V} {xs : List α} {i : Nat} {x : α} (h : xs[i]? = some x) : atI (xs.map f) (i : Int) = some (f x) := atI_nat (by rw [List.getElem?_map, h]; rfl)
theorem take_more {α : Type} {l : List α} {i : Nat} {x : α} (h : l[i]? = some x) : l.take (i + 1) = l.take i ++ [x] := by
  rw [List.take_add_one, h]; rfl
/-! deep data stands as long as what was tracked stands -/
mutual
theorem dp_same {K : PySem.W.Frag} {H H' : Hp} (e : Same H H') : ∀ (d : PyData) {v : V}, Dp K H v d → Dp K H' v d
  | _, _, .non => .non
  | _, _, .bl b => .bl b
  | _, _, .int i => .int i
  | _, _, .str x => .str x
  | .list ds, _, .lst h a => .lst (e.seq h) (dpa_same e ds a)
  | .tuple ds, _, .tup h a => .tup (sqt_same e h) (dpa_same e ds a)
theorem dpa_same {K : PySem.W.Frag} {H H' : Hp} (e : Same H H') : ∀ (ds : List PyData) {vs : List V}, DpAll K H vs ds → DpAll K H' vs ds
  | [], _, .nil => .nil
  | d :: ds, _, .cons h a => .cons (dp_same e d h) (dpa_same e ds a)
end
theorem dpa_len {K : PySem.W.Frag} {H : Hp} : ∀ {vs : List V} {ds : List PyData}, DpAll K H vs ds → vs.length = ds.length
  | _, _, .nil => rfl
  | _, _, .cons _ a => by rw [List.length_cons, List.length_cons, dpa_len a]
theorem dpa_at {K : PySem.W.Frag} {H : Hp} : ∀ {vs : List V} {ds : List PyData} {i : Nat} {v : V}, DpAll K H vs ds → vs[i]? = some v → ∃ d, ds[i]? = some d ∧ Dp K H v d
  | _, _, _, _, .nil, h => by simp at h
  | _, _, 0, _, .cons h _, e => ⟨_, rfl, by have := Option.some.inj e; subst this; exact h⟩
  | _, _, i + 1, _, .cons _ a, e => dpa_at (i := i) a (by simpa using e)
theorem dpa_app {K : PySem.W.Frag} {H : Hp} : ∀ {vs ws : List V} {ds es : List PyData}, DpAll K H vs ds → DpAll K H ws es → DpAll K H (vs ++ ws) (ds ++ es)
  | _, _, _, _, .nil, b => b
  | _, _, _, _, .cons h a, b => .cons h (dpa_app a b)
theorem eqv_self {d : PyData} (h : SeqAt.shaped d = true) : PyData.eqv d d = true := SeqAt.eqv_refl d (SeqAt.canLay_of_shaped h)
/-! data that may be compared -/
theorem layAll : ∀ {ds : List PyData}, (∀ d ∈ ds, d.canLay0 = true) → PyData.canLayAll0 ds = true
  | [], _ => rfl
  | d :: ds, h => by
    rw [PyData.canLayAll0, h d List.mem_cons_self, layAll fun e he => h e (List.mem_cons_of_mem _ he)]; rfl
theorem depAll {n : Nat} : ∀ {ds : List PyData}, (∀ d ∈ ds, d.depth ≤ n) → PyData.depthAll ds ≤ n
  | [], _ => Nat.zero_le _
  | d :: ds, h => by
    have h1 := h d List.mem_cons_self
    have h2 := depAll (ds := ds) fun e he => h e (List.mem_cons_of_mem _ he)
    simp only [PyData.depthAll]
    omega
/-- plain data of at most this depth -/
def Flat (n : Nat) (d : PyData) : Prop := d.canLay0 = true ∧ d.depth ≤ n
theorem flat_list {n : Nat} {ds : List PyData} (h : ∀ d ∈ ds, Flat n d) : Flat (n + 1) (.list ds) :=
  ⟨by rw [PyData.canLay0]; exact layAll fun d hd => (h d hd).1, by have := depAll (n := n) fun d hd => (h d hd).2; simp only [PyData.depth]; omega⟩
theorem flat_tup {n : Nat} {ds : List PyData} (h : ∀ d ∈ ds, Flat n d) : Flat (n + 1) (.tuple ds) :=
  ⟨by rw [PyData.canLay0]; exact layAll fun d hd => (h d hd).1, by have := depAll (n := n) fun d hd => (h d hd).2; simp only [PyData.depth]; omega⟩
theorem flat_int (n : Nat) (i : Int) : Flat n (.int i) := ⟨rfl, by simp [PyData.depth]⟩
theorem flat_str (n : Nat) (x : Str) (h : (PyData.str x).canLay0 = true := by decide +kernel) : Flat n (.str x) := ⟨h, by simp [PyData.depth]⟩
theorem flat_bl (n : Nat) (b : Bool) : Flat n (.bool b) := ⟨rfl, by simp [PyData.depth]⟩
theorem flat_non (n : Nat) : Flat n .none := ⟨rfl, by simp [PyData.depth]⟩
theorem Flat.mono {n m : Nat} {d : PyData} (h : Flat n d) (hm : n ≤ m) : Flat m d := ⟨h.1, Nat.le_trans h.2 hm⟩
theorem Flat.sh {n : Nat} {d : PyData} (h : Flat n d) (hn : n ≤ 64) : SeqAt.shaped d = true := by
  show (d.canLay0 && decide (d.depth ≤ 64)) = true
  rw [Bool.and_eq_true]
  exact ⟨h.1, decide_eq_true (Nat.le_trans h.2 hn)⟩
theorem tyx_t {K : PySem.W.Frag} {H : Hp} {a : Addr} {xs : List V} (h : SqT K H a xs) : TyX K H (.ref a) (.type "tuple") := by
  rcases h with (h | ⟨o, h⟩) | ⟨o, its, n, h, hc, _⟩
  · exact .base (.tup h)
  · exact .fTuple h
  · exact .kTuple h hc
theorem tyx_l {K : PySem.W.Frag} {H : Hp} {a : Addr} {xs : List V} (h : SqL K H a xs) : TyX K H (.ref a) (.type "list") := by
  rcases h with (h | ⟨o, h⟩) | ⟨o, its, n, h, hc, _⟩
  · exact .base (.lst h)
  · exact .base (.frz h)
  · exact .kList h hc
theorem same_both {G H : Hp} {t : Addr} {x : HO} (e : Same G H) : Same (upd G t x) (upd H t x) := fun b o h => by
  by_cases hb : b = t
  · subst hb; rw [upd_same] at h ⊢; exact h
  · rw [upd_ne hb] at h ⊢; exact e b o h
theorem set_self {α : Type} : ∀ {l : List α} {i : Nat} {x : α}, l[i]? = some x → l.set i x = l
  | [], i, x, h => by simp at h
  | a :: l, 0, x, h => by
    have e : a = x := Option.some.inj h
    subst e
    rfl
  | a :: l, i + 1, x, h => by
    show a :: l.set i x = a :: l
    rw [set_self (by simpa using h)]
theorem ixn {n j : Nat} {i : Int} (hi : i = (j : Int)) (hj : j < n) : ixN n i = some j := by
  unfold ixN
  rw [if_pos (by omega), if_pos (by omega)]
  congr 1
  omega
/-! shifts and masks in place -/
section
variable {X : Cx}
theorem ip_shr : PIp X .RShift (fun x y H Q => ∃ (i : Int) (k : Nat), x = .int i ∧ y = .int (k : Int) ∧ Q (.int (i / 2 ^ k)) H) := by
  intro pins s σ H x y v u Q I r1 r2 h
  obtain ⟨i, k, e1, e2, q⟩ := h
  subst e1; subst e2
  obtain ⟨t, rfl⟩ := r1
  obtain ⟨t', rfl⟩ := r2
  refine irshift_int (Int.natCast_nonneg k) ⟨.int _, H, I.tok _, ⟨_, rfl⟩, ?_⟩
  rw [Int.toNat_natCast, Int.fdiv_eq_ediv_of_nonneg _ (Int.le_of_lt (Int.pow_pos (by decide)))]
  exact q
theorem ip_or : PIp X .BitOr (fun x y H Q => ∃ (r a : Int) (k : Nat), x = .int r ∧ y = .int (a * 2 ^ k) ∧ (0 ≤ a ∧ 0 ≤ r ∧ r < 2 ^ k) ∧ Q (.int (r + a * 2 ^ k)) H) := by
  intro pins s σ H x y v u Q I r1 r2 h
  obtain ⟨r, a, k, e1, e2, ⟨h0, h1, h2⟩, q⟩ := h
  subst e1; subst e2
  obtain ⟨t, rfl⟩ := r1
  obtain ⟨t', rfl⟩ := r2
  refine ior_int ⟨.int _, H, I.tok _, ⟨_, rfl⟩, ?_⟩
  have e : Builtin.bitOr r (a * 2 ^ k) = r + a * 2 ^ k := by
    have hp : (0 : Int) ≤ a * 2 ^ k := Int.mul_nonneg h0 (Int.le_of_lt (Int.pow_pos (by decide)))
    rw [bitOr_nn h1 hp, Nat.or_comm, ← bitOr_nn hp h1, or_low h0 h1 h2, Int.add_comm]
  rw [e]
  exact q
end
theorem bits_small : ∀ n : Nat, n < 128 → Builtin.Int.intBits (n : Int) ≤ 8 := by decide +kernel
/-- isinstance(e, c) of the error that a suite holds, its class known by the reading -/
theorem call_isE1 {X : Cx} {a D : Addr} {oe : Obj} {cls : Value} {d : Option Addr} {pn : List (Addr × Obj)} (C : ExcC X.K D) (hz : Zc cls d oe) (hf : ∃ vs, oe.data = .fields vs) :
    CallR (X.suite a ((a, oe) :: pn)) (.builtin "isinstance") (fun xs H Q => cls = .ref D ∧ d = none ∧ rIsE X.K D a xs H Q) := fun pins s σ H xs us Q I r h => by
  obtain ⟨h1, h2, h⟩ := h
  subst h1
  subst h2
  exact call_isE C hz hf pins s σ H xs us Q I r h
/-! slices -/
theorem sIx_le {n d : Nat} {i : Nat} : HT.sIx n d (some (i : Int)) = min i n := HT.sIx_nat n d i
theorem cut0n (xs : List V) (j : Nat) : cutV xs none (some (j : Int)) = xs.take j := by
  unfold cutV
  rw [sIx_le, HT.sIx_none, List.drop_zero, Nat.sub_zero]
  exact (List.take_eq_take_min).symm
theorem cutnn (xs : List V) (i j : Nat) : cutV xs (some (i : Int)) (some (j : Int)) = (xs.drop i).take (j - i) := by
  unfold cutV
  rw [sIx_le, sIx_le]
  by_cases hi : i ≤ xs.length
  · rw [Nat.min_eq_left hi]
    by_cases hj : j ≤ xs.length
    · rw [Nat.min_eq_left hj]
    · rw [Nat.min_eq_right (by omega), List.take_of_length_le (by rw [List.length_drop]; omega), List.take_of_length_le (by rw [List.length_drop]; omega)]
  · have e : min i xs.length = xs.length := by omega
    rw [e, List.drop_of_length_le (Nat.le_refl _), List.drop_of_length_le (show xs.length ≤ i by omega), List.take_nil, List.take_nil]
theorem cut_ints (ns : List Int) {i j : Nat} {a b : Int} (ha : a = i) (hb : b = j) : cutV (ns.map V.int) (some a) (some b) = ((ns.drop i).take (j - i)).map V.int := by
  rw [ha, hb, cutnn, ← List.map_drop, ← List.map_take]
theorem rep_ints (ns : List Int) (k : Nat) : (List.replicate k (ns.map V.int)).flatten = (List.replicate k ns).flatten.map V.int := by
  rw [List.map_flatten, List.map_replicate]
/-- [e for x in a slice], e changes nothing -/
theorem lc_cut {K : PySem.W.Frag} {wi : TI} {te : TE} {s : Nat} {σ : L2.St} {H : Hp} {Q : VK} (xs : List V) (f : V → V)
    (hwi : ∀ R : It → Hp → Prop, (∀ p, H p = none → R (Itl K p) (upd H p (.lst xs))) → wi σ H R) (hlen : xs.length ≤ 90000)
    (hw : ∀ x, wipe ((wipe σ [s]).set s (some x)) [s] = wipe σ [s])
    (he : ∀ (i : Nat) (x : V) (G : Hp) (Q' : VK), xs[i]? = some x → Same H G → Q' (f x) G → te ((wipe σ [s]).set s (some x)) G Q')
    (k : ∀ D H', H D = none → Same H H' → H' D = some (.lst (xs.map f)) → Q (.ref D) H') : tLc wi (gName s) tYes te [s] σ H Q := by
  refine hwi _ fun p hp D hD => ?_
  have nD : D ≠ p := fun z => by rw [z, upd_same] at hD; cases hD
  have hD0 : H D = none := by rw [upd_ne nD] at hD; exact hD
  refine lc_list (K := K) (a := p) (xs := xs) (fun i H' => Same H H' ∧ H' p = some (.lst xs) ∧ H' D = some (.lst ((xs.take i).map f)))
    ⟨(same_upd hp).trans (same_upd hD), by rw [upd_ne nD.symm, upd_same], by rw [upd_same]; rfl⟩ (fun i H' _ h => sql h.2.1) (fun i x G hx hG => ?_) (fun G hG => ?_)
  · refine ⟨hw x, ?_⟩
    refine he i x G _ hx hG.1 ⟨_, hG.2.2, szl (by rw [List.length_map, List.length_take]; omega), same_put hG.1 hD0, by rw [upd_ne nD.symm]; exact hG.2.1, ?_⟩
    rw [upd_same, take_more hx, List.map_append]
    rfl
  · refine k D G hD0 hG.1 ?_
    rw [List.take_length] at hG
    exact hG.2.2
/-- lists of ints as data -/
theorem dpa_ints {K : PySem.W.Frag} {H : Hp} : ∀ ns : List Int, DpAll K H (ns.map V.int) (ns.map PyData.int)
  | [] => .nil
  | n :: ns => .cons (.int n) (dpa_ints ns)
theorem dp_ints {K : PySem.W.Frag} {H : Hp} {a : Addr} {ns : List Int} (h : SqL K H a (ns.map V.int)) : Dp K H (.ref a) (.list (ns.map PyData.int)) := .lst h (dpa_ints ns)
theorem flat_ints (ns : List Int) : Flat 1 (.list (ns.map PyData.int)) := flat_list (n := 0) fun d hd => by
  obtain ⟨i, _, rfl⟩ := List.mem_map.mp hd
  exact flat_int _ _
theorem flat_tints (ns : List Int) : Flat 1 (.tuple (ns.map PyData.int)) := flat_tup (n := 0) fun d hd => by
  obtain ⟨i, _, rfl⟩ := List.mem_map.mp hd
  exact flat_int _ _
theorem eqvAll_ints : ∀ xs ys : List Int, PyData.eqvAll (xs.map .int) (ys.map .int) = decide (xs = ys)
  | [], [] => rfl
  | [], _ :: _ => rfl
  | _ :: _, [] => rfl
  | x :: xs, y :: ys => by
    show ((x == y) && PyData.eqvAll (xs.map .int) (ys.map .int)) = _
    rw [eqvAll_ints xs ys, Bool.eq_iff_iff]
    simp
theorem eqv_ints (xs ys : List Int) : PyData.eqv (.list (xs.map .int)) (.list (ys.map .int)) = decide (xs = ys) := eqvAll_ints xs ys
theorem eqv_tints (xs ys : List Int) : PyData.eqv (.tuple (xs.map .int)) (.tuple (ys.map .int)) = decide (xs = ys) := eqvAll_ints xs ys
/-- a def with defaults that lets nothing out -/
theorem okD {P : Program} {w : World} {K : PySem.W.Frag} {mg : Str → Option Value} {base : Heap} {x qual : Str} {params : Arguments} {body : List Stmt} {scope : Scope} {dvs : List V} {kws : List (Str × V)} {f : Addr} {fd : FuncData} {N ps : List Str} {k : Nat} {sp : Sp}
    (F : FunD K x qual params body scope dvs kws f fd) (S : FnScope N ps scope) (len : ∀ vs H Q E, sp vs H Q E → vs.length = ps.length)
    (hb : ∀ (cdv : Value) (A : Around) (outer : List Env) (s : Shared) (H : Hp) (vs : List V) (Q : VK) (E : XK), Room k (A.deeper (envOfC qual scope s.heap.objs.size f cdv)) → sp vs H Q E →
      ∃ t, PSs (cxOf CX0 P w K mg base N qual scope f cdv A outer s H E).nox body t ∧ t { nx := fun _ H' => Q .non H', rt := Q } (start N vs) H) : FnOk P w K mg base CX0 (k + 1) f fd ps sp :=
  F.ok S len fun cdv A outer s H vs Q E hr h => by
    obtain ⟨t, h1, q⟩ := hb cdv A outer s H vs Q E hr h
    exact ⟨t, h1.nox, q⟩
/-! what an expression gives, whatever stands besides -/
def EI (te : TE) (σ : L2.St) (H : Hp) (v : V) : Prop := ∀ G, Same H G → ∀ Q : VK, Q v G → te σ G Q
def EA (ta : TA) (σ : L2.St) (H : Hp) (vs : List V) : Prop := ∀ G, Same H G → ∀ Q : List V → Hp → Prop, Q vs G → ta σ G Q
/-- a list, new or old -/
def EL (te : TE) (σ : L2.St) (H : Hp) (xs : List V) : Prop := ∀ G, Same H G → ∀ Q : VK, (∀ p G', Same G G' → G' p = some (.lst xs) → Q (.ref p) G') → te σ G Q
section
variable {K : PySem.W.Frag} {σ : L2.St} {H : Hp} {ta tb te : TE} {x y z v : V} {xs ys : List V}
theorem ei_var {i : Nat} (h : σ[i]? = some (some v)) : EI (tVar i) σ H v := fun _ _ _ q => ⟨v, h, q⟩
theorem ei_c : EI (tC v) σ H v := fun _ _ _ q => q
theorem ei_op {r : R2} (ha : EI ta σ H x) (hb : EI tb σ H y) (hr : ∀ G, Same H G → ∀ Q : VK, Q z G → r x y G Q) : EI (tOp r ta tb) σ H z := fun G s Q q => ha G s _ (hb G s _ (hr G s Q q))
theorem ei_i0 {g : Int → Int → V} {i j : Int} (ha : EI ta σ H (.int i)) (hb : EI tb σ H (.int j)) : EI (tOp (rI0 g) ta tb) σ H (g i j) := ei_op ha hb fun _ _ _ q => ⟨i, j, rfl, rfl, q⟩
theorem ei_ic {C : Int → Int → Prop} {g : Int → Int → V} {i j : Int} (ha : EI ta σ H (.int i)) (hb : EI tb σ H (.int j)) (hc : C i j) : EI (tOp (rI C g) ta tb) σ H (g i j) := ei_op ha hb fun _ _ _ q => ⟨i, j, rfl, rfl, hc, q⟩
theorem ea_nil : EA tNil σ H [] := fun _ _ _ q => q
theorem ea_cons {tr : TA} {vs : List V} (h : EI ta σ H x) (g : EA tr σ H vs) : EA (tCons ta tr) σ H (x :: vs) := fun G s _ q => h G s _ (g G s _ q)
theorem ei_cb {r : List V → Hp → VK → Prop} {tr : TA} {vs : List V} (ha : EA tr σ H vs) (hr : ∀ G, Same H G → ∀ Q : VK, Q z G → r vs G Q) : EI (tCB r tr) σ H z := fun G s Q q => ha G s _ (hr G s Q q)
/-- len of a list, list(..) of a list or a tuple, as they are read -/
def rLen (K : PySem.W.Frag) : List V → Hp → VK → Prop := fun xs H Q => ∃ p ys, xs = [.ref p] ∧ (SqL K H p ys ∨ SqT K H p ys) ∧ Q (.int ys.length) H
def rLst (K : PySem.W.Frag) : List V → Hp → VK → Prop := fun xs H Q => ∃ p ys, xs = [.ref p] ∧ (SqL K H p ys ∨ SqT K H p ys) ∧ ∀ l, H l = none → Q (.ref l) (upd H l (.lst ys))
def rTup (K : PySem.W.Frag) : List V → Hp → VK → Prop := fun xs H Q => ∃ p ys, xs = [.ref p] ∧ ((SqL K H p ys ∧ ∀ l, H l = none → Q (.ref l) (upd H l (.tup ys))) ∨ (SqT K H p ys ∧ Q (.ref p) H))
theorem callK_tuple {X : Cx} (h : X.K = K) : CallR X (.type "tuple") (rTup K) := by subst h; exact call_tuple_of
theorem callK_list {X : Cx} (h : X.K = K) : CallR X (.type "list") (rLst K) := by subst h; exact call_list_of
theorem opK_catA {X : Cx} (h : X.K = K) : OpR X (binaryOp .Add) (rCatA K) := by subst h; exact op_catA
theorem ixK_list {X : Cx} (h : X.K = K) : IxR X (rIxL K) := by subst h; exact ix_list
theorem ixK_tup {X : Cx} (h : X.K = K) : IxR X (rIxT K) := by subst h; exact ix_tup
theorem pe_fldK {X : Cx} {e : Expr} {f : Str} {pos : Pos} {ta : TE} (h : X.K = K) (he : PE X e ta) (hb : attributeBase e f X.env (eval e X.env) = eval e X.env) : PE X (.Attribute e f pos) (tFld K ta f) := by subst h; exact pe_fld he hb
theorem callK_len {X : Cx} (h : X.K = K) : CallR X (.builtin "len") (rLen K) := by subst h; exact call_len_seq
theorem ei_lenL {i : Nat} {p : Addr} (h : σ[i]? = some (some (.ref p))) (e : SqL K H p xs) : EI (tCB (rLen K) (tCons (tVar i) tNil)) σ H (.int (xs.length : Int)) := ei_cb (ea_cons (ei_var h) ea_nil) fun _ s _ q => ⟨p, xs, rfl, .inl (s.seq e), q⟩
theorem ei_lenT {i : Nat} {p : Addr} (h : σ[i]? = some (some (.ref p))) (e : SqT K H p xs) : EI (tCB (rLen K) (tCons (tVar i) tNil)) σ H (.int (xs.length : Int)) := ei_cb (ea_cons (ei_var h) ea_nil) fun _ s _ q => ⟨p, xs, rfl, .inr (sqt_same s e), q⟩
theorem ei_fld {i : Nat} {p C dx : Addr} {fs : List (Str × V)} {f : Str} (h : σ[i]? = some (some (.ref p))) (hp : H p = some (.ins C dx fs)) (c : Cls K C) (n : NoAttr K C f) (l : fs.lookup f = some v) : EI (tFld K (tVar i) f) σ H v := fun _ s _ q => ⟨.ref p, h, p, C, dx, fs, v, rfl, s _ _ hp, c, n, l, q⟩
theorem ei_din {td : TE} {d : Addr} {kvs : List (Key × V)} {k : Key} (hy : EI te σ H (kV k)) (hd : EI td σ H (.ref d)) (e : H d = some (.dK kvs)) : EI (tDIn te td) σ H (.bl (valV kvs k).isSome) := fun G s _ q => hy G s _ (hd G s _ ⟨d, _, rfl, DGet.k (s _ _ e), q⟩)
theorem ei_dnotin {td : TE} {d : Addr} {kvs : List (Key × V)} {k : Key} (hy : EI te σ H (kV k)) (hd : EI td σ H (.ref d)) (e : H d = some (.dK kvs)) : EI (tDNotIn te td) σ H (.bl (!(valV kvs k).isSome)) := fun G s _ q => hy G s _ (hd G s _ ⟨d, _, rfl, DGet.k (s _ _ e), q⟩)
theorem ei_dget {td : TE} {d : Addr} {kvs : List (Key × V)} {k : Key} (hy : EI te σ H (kV k)) (hd : EI td σ H (.ref d)) (e : H d = some (.dK kvs)) (hv : valV kvs k = some v) : EI (tDGet td te) σ H v := fun G s _ q => hd G s _ (hy G s _ ⟨d, v, rfl, by rw [← hv]; exact DGet.k (s _ _ e), q⟩)
theorem ei_ixL {p : Addr} {j : Int} (ha : EI ta σ H (.ref p)) (hi : EI tb σ H (.int j)) (e : SqL K H p xs) (h : atI xs j = some v) : EI (tOp (rIxL K) ta tb) σ H v := ei_op ha hi fun _ s _ q => ⟨p, xs, j, v, rfl, rfl, s.seq e, h, q⟩
theorem ei_ixT {p : Addr} {j : Int} (ha : EI ta σ H (.ref p)) (hi : EI tb σ H (.int j)) (e : SqT K H p xs) (h : atI xs j = some v) : EI (tOp (rIxT K) ta tb) σ H v := ei_op ha hi fun _ s _ q => ⟨p, xs, j, v, rfl, rfl, sqt_same s e, h, q⟩
theorem ei_eq (ha : EI ta σ H x) (hb : EI tb σ H y) (h : scal x y = true) : EI (tOp rEq ta tb) σ H (.bl (decide (x = y))) := ei_op ha hb fun _ _ _ q => ⟨h, q⟩
theorem ei_ne (ha : EI ta σ H x) (hb : EI tb σ H y) (h : scal x y = true) : EI (tOp rNe ta tb) σ H (.bl (!decide (x = y))) := ei_op ha hb fun _ _ _ q => ⟨h, q⟩
/-- a test by its value -/
theorem tt_use {b : Bool} {Q : Bool → Hp → Prop} (h : EI te σ H (.bl b)) (k : Q b H) : tTest te σ H Q := h H (Same.refl _) _ ⟨b, rfl, k⟩
theorem tb_use {b : Bool} {Q : Bool → Hp → Prop} (h : EI te σ H (.bl b)) (k : Q b H) : tB te σ H Q := h H (Same.refl _) _ ⟨b, rfl, k⟩
theorem el_var {i : Nat} {p : Addr} (h : σ[i]? = some (some (.ref p))) (e : H p = some (.lst xs)) : EL (tVar i) σ H xs := fun G s _ q => ⟨.ref p, h, q p G (Same.refl _) (s _ _ e)⟩
/-- a new list -/
def EN (te : TE) (σ : L2.St) (H : Hp) (xs : List V) : Prop := ∀ G, Same H G → ∀ Q : VK, (∀ p G', G p = none → Same G G' → G' p = some (.lst xs) → Q (.ref p) G') → te σ G Q
theorem EN.el (h : EN te σ H xs) : EL te σ H xs := fun G s Q q => h G s Q fun p G' _ => q p G'
theorem en_lst {tr : TA} {vs : List V} (ha : EA tr σ H vs) (hl : vs.length ≤ 90000) : EN (tLst tr) σ H vs := fun G s _ q => ha G s _ ⟨sz (by omega), fun p hp => q p _ hp (same_upd hp) upd_same⟩
theorem en_cat (ha : EL ta σ H xs) (hb : EL tb σ H ys) (hl : xs.length + ys.length ≤ 90000) : EN (tOp rCat ta tb) σ H (xs ++ ys) := fun G s _ q =>
  ha G s _ fun p G1 s1 e1 => hb G1 (s.trans s1) _ fun p2 G2 s2 e2 => ⟨p, p2, xs, ys, rfl, rfl, s2 _ _ e1, e2, sz (by omega), fun p3 h3 => q p3 _ ((s1.trans s2).free h3) ((s1.trans s2).trans (same_upd h3)) upd_same⟩
theorem en_rep {k : Int} (ha : EL ta σ H xs) (hb : EI tb σ H (.int k)) (h1 : -1000000 ≤ k) (h2 : k ≤ 1000000) (hl : xs.length * k.toNat ≤ 90000) : EN (tOp rRep ta tb) σ H (List.replicate k.toNat xs).flatten := fun G s _ q =>
  ha G s _ fun p G1 s1 e1 => hb G1 (s.trans s1) _ ⟨p, k, xs, rfl, rfl, e1, by omega, by omega, sz (by omega), fun p3 h3 => q p3 _ (s1.free h3) (s1.trans (same_upd h3)) upd_same⟩
theorem el_lst {tr : TA} {vs : List V} (ha : EA tr σ H vs) (hl : vs.length ≤ 90000) : EL (tLst tr) σ H vs := (en_lst ha hl).el
theorem el_cat (ha : EL ta σ H xs) (hb : EL tb σ H ys) (hl : xs.length + ys.length ≤ 90000) : EL (tOp rCat ta tb) σ H (xs ++ ys) := (en_cat ha hb hl).el
theorem el_rep {k : Int} (ha : EL ta σ H xs) (hb : EI tb σ H (.int k)) (h1 : -1000000 ≤ k) (h2 : k ≤ 1000000) (hl : xs.length * k.toNat ≤ 90000) : EL (tOp rRep ta tb) σ H (List.replicate k.toNat xs).flatten := (en_rep ha hb h1 h2 hl).el
theorem el_cb {r : List V → Hp → VK → Prop} {tr : TA} {vs : List V} (ha : EA tr σ H vs) (hr : ∀ G, Same H G → ∀ Q : VK, (∀ p G', Same G G' → G' p = some (.lst xs) → Q (.ref p) G') → r vs G Q) : EL (tCB r tr) σ H xs := fun G s Q q => ha G s _ (hr G s Q q)
theorem el_call {sp : Sp} {dvs : List V} {E : XK} {tr : TA} {vs : List V} (ha : EA tr σ H vs) (hr : ∀ G, Same H G → ∀ Q : VK, (∀ p G', Same G G' → G' p = some (.lst xs) → Q (.ref p) G') → sp (vs ++ dvs) G Q E) : EL (tCall sp dvs E tr) σ H xs := fun G s Q q => ha G s _ (hr G s Q q)
theorem el_listL {i : Nat} {p : Addr} (h : σ[i]? = some (some (.ref p))) (e : SqL K H p xs) : EL (tCB (rLst K) (tCons (tVar i) tNil)) σ H xs := el_cb (ea_cons (ei_var h) ea_nil) fun _ s _ q => ⟨p, xs, rfl, .inl (s.seq e), fun l hl => q l _ (same_upd hl) upd_same⟩
theorem el_listT {i : Nat} {p : Addr} (h : σ[i]? = some (some (.ref p))) (e : SqT K H p xs) : EL (tCB (rLst K) (tCons (tVar i) tNil)) σ H xs := el_cb (ea_cons (ei_var h) ea_nil) fun _ s _ q => ⟨p, xs, rfl, .inr (sqt_same s e), fun l hl => q l _ (same_upd hl) upd_same⟩
/-- x = an expression that gives a list -/
theorem EL.use {Q : VK} (h : EL te σ H xs) (k : ∀ p H', Same H H' → H' p = some (.lst xs) → Q (.ref p) H') : te σ H Q := h H (Same.refl _) Q k
theorem EN.use {Q : VK} (h : EN te σ H xs) (k : ∀ p H', H p = none → Same H H' → H' p = some (.lst xs) → Q (.ref p) H') : te σ H Q := h H (Same.refl _) Q k
theorem EI.use {Q : VK} (h : EI te σ H v) (k : Q v H) : te σ H Q := h H (Same.refl _) Q k
end
/-- defaults: what is bound where keywords give the rest -/
theorem kb_one {K : PySem.W.Frag} {x qual : Str} {params : Arguments} {body : List Stmt} {scope : Scope} {dvs : List V} {f : Addr} {fd : FuncData} {ps : List Str} (F : FunD K x qual params body scope dvs [] f fd) (n : Nat) (ks : List Str) (hd : dvs ≠ [])
    (h : ∀ (T : Addr) (kV doc pm : Value) (an : Option Addr) (cdv ct : Value) (us ws its : List Value), us.length = n → ws.length = ks.length → its.length = dvs.length →
      ∃ k, bindArgs (PySem.W.fnOf x qual params body scope (.ref T) kV doc pm an cdv ct) ⟨us, ks.zip ws⟩ = seqItems? (.ref T) >>= k ∧ k (some its.toArray) = pure (ps.zip (us ++ ws))) :
    KBn K fd ps n ks (fun us ws => us ++ ws) (fun vs zs => vs ++ zs) := by
  obtain ⟨oc, od, dV, kV, doc, pm, an, cdv, ct, osl, rfl, lk, hcd, hD, hK⟩ := F.ex
  rcases hD with ⟨e, _⟩ | ⟨_, T, o, its, m, rfl, lT, oT, rT⟩
  · exact absurd e hd
  · refine ⟨fun s us ws X h1 h2 => BindsTo.of_looks fun M => ?_, fun r1 r2 => r1.append r2⟩
    obtain ⟨k, e1, e2⟩ := h T kV doc pm an cdv ct us ws its h1 h2 rT.length.symm
    rw [e1]
    exact looks_items X lT oT (.of_pure e2)
theorem andV_use {ta tb : TE} {σ : L2.St} {H : Hp} {Q : VK} {x y : Bool} (h1 : EI ta σ H (.bl x)) (h2 : x = true → ∀ Q' : VK, (∀ H', Same H H' → Q' (.bl y) H') → tb σ H Q') (k : ∀ H', Same H H' → Q (.bl (x && y)) H') : tAndV ta tb σ H Q := by
  refine h1 H (Same.refl _) _ ⟨x, rfl, ?_⟩
  cases x with
  | true => exact (if_pos rfl).mpr (h2 rfl _ k)
  | false => exact (if_neg Bool.false_ne_true).mpr (k H (Same.refl _))
/-- what is locked and let go stands as it stood -/
theorem unlock {H H' : Hp} {d : Addr} {od : Obj} {u : HO} (e : H d = some u) (s : Same (upd H d (.frz od u)) H') : Same H (upd H' d u) := fun b o h => by
  by_cases hb : b = d
  · subst hb
    rw [upd_same, ← e]
    exact h
  · rw [upd_ne hb]
    exact s b o (by rw [upd_ne hb]; exact h)
theorem take_filter {α : Type} {l : List α} {i : Nat} {x : α} (f : α → Bool) (h : l[i]? = some x) : (l.take (i + 1)).filter f = (l.take i).filter f ++ if f x then [x] else [] := by
  rw [take_more h, List.filter_append]
  cases e : f x <;> simp [e]
/-- [e for k in d if t] over the keys of a dict, t and e change nothing -/
theorem lc_keys {td te : TE} {tt : TT} {s : Nat} {σ : L2.St} {H : Hp} {Q : VK} (d : Addr) (kvs : List (Key × V)) (f : Key → Bool) (g : Key → V) (e : H d = some (.dK kvs)) (hlen : kvs.length ≤ 90000)
    (htd : ∀ od, EI td σ (upd H d (.frz od (.dK kvs))) (.ref d))
    (hw : ∀ x, wipe ((wipe σ [s]).set s (some x)) [s] = wipe σ [s])
    (ht : ∀ (od : Obj) (i : Nat) (k : Key) (v : V) (G : Hp) (Q' : Bool → Hp → Prop), kvs[i]? = some (k, v) → Same (upd H d (.frz od (.dK kvs))) G → Q' (f k) G → tt ((wipe σ [s]).set s (some (kV k))) G Q')
    (he : ∀ (od : Obj) (i : Nat) (k : Key) (v : V) (G : Hp) (Q' : VK), kvs[i]? = some (k, v) → Same (upd H d (.frz od (.dK kvs))) G → Q' (g k) G → te ((wipe σ [s]).set s (some (kV k))) G Q')
    (k : ∀ D H', H D = none → Same H H' → H' D = some (.lst ((kvs.filter fun kv => f kv.1).map fun kv => g kv.1)) → Q (.ref D) H') : tLockE (tLc (iKeys td) (gName s) tt te [s]) σ H Q := by
  refine ⟨d, _, e, trivial, fun od => htd od _ (Same.refl _) _ ⟨d, od, rfl, .inl ⟨kvs, upd_same, fun D hD => ?_⟩⟩⟩
  have nD : D ≠ d := fun z => by rw [z, upd_same] at hD; cases hD
  have hD0 : H D = none := by rw [upd_ne nD] at hD; exact hD
  refine lc_it walk_keys (fun i G => Same (upd H d (.frz od (.dK kvs))) G ∧ G D = some (.lst (((kvs.take i).filter fun kv => f kv.1).map fun kv => g kv.1)))
    ⟨same_upd hD, upd_same⟩ (fun i G _ h => h.1 _ _ upd_same) (fun i x G G' hi hG hy => ?_) (fun G hG => ?_)
  · obtain ⟨rfl, key, v, hkv, rfl⟩ := hy
    have hfl : ((kvs.take i).filter fun kv => f kv.1).length ≤ 90000 := Nat.le_trans (List.length_filter_le _ _) (by rw [List.length_take]; omega)
    refine ⟨hw _, ht od i key v _ _ hkv hG.1 ?_⟩
    have hts := take_filter (fun kv : Key × V => f kv.1) hkv
    cases hf : f key with
    | true =>
      refine (if_pos rfl).mpr (he od i key v _ _ hkv hG.1 ⟨_, hG.2, szl (by rw [List.length_map]; omega), same_put hG.1 hD, ?_⟩)
      rw [upd_same, hts, List.map_append]
      simp only [hf, if_true]
      rfl
    | false =>
      refine (if_neg Bool.false_ne_true).mpr ⟨hG.1, ?_⟩
      rw [hts]
      simp only [hf, Bool.false_eq_true, if_false, List.append_nil]
      exact hG.2
  · rw [List.take_length] at hG
    refine ⟨hG.1 _ _ upd_same, k D _ hD0 (unlock e hG.1) ?_⟩
    rw [upd_ne nD]
    exact hG.2
theorem put_fresh {kvs : List (Key × V)} {k : Key} {v : V} (h : ∀ kv ∈ kvs, kv.1 ≠ k) : putK kvs k v = kvs ++ [(k, v)] := by
  unfold putK
  rw [if_neg]
  intro z
  obtain ⟨kv, hm, hk⟩ := List.any_eq_true.mp z
  exact h kv hm (of_decide_eq_true hk)
theorem nd_ne {α β : Type} {l : List (α × β)} {i : Nat} {x : α × β} (nd : (l.map (·.1)).Nodup) (h : l[i]? = some x) : ∀ y ∈ l.take i, y.1 ≠ x.1 := fun y hy z => by
  obtain ⟨j, hj, rfl⟩ := List.getElem_of_mem hy
  rw [List.length_take] at hj
  rw [List.getElem_take] at z
  obtain ⟨hi, rfl⟩ := List.getElem?_eq_some_iff.mp h
  have e1 : (l.map (·.1))[j]? = some l[i].1 := by rw [List.getElem?_map, List.getElem?_eq_getElem (by omega), ← z]; rfl
  have e2 : (l.map (·.1))[i]? = some l[i].1 := by rw [List.getElem?_map, List.getElem?_eq_getElem hi]; rfl
  have := nd_ix nd e1 e2
  omega
/-- {k: e for k in d if t} over the keys of a dict -/
theorem dc_keys {td tv : TE} {tt : TT} {s : Nat} {σ : L2.St} {H : Hp} {Q : VK} (d : Addr) (kvs : List (Key × V)) (f : Key → Bool) (g : Key × V → V) (e : H d = some (.dK kvs)) (hlen : kvs.length ≤ 90000) (nd : (kvs.map (·.1)).Nodup)
    (htd : ∀ od, EI td σ (upd H d (.frz od (.dK kvs))) (.ref d))
    (hw : ∀ x, wipe ((wipe σ [s]).set s (some x)) [s] = wipe σ [s])
    (ht : ∀ (od : Obj) (i : Nat) (k : Key) (v : V) (G : Hp) (Q' : Bool → Hp → Prop), kvs[i]? = some (k, v) → Same (upd H d (.frz od (.dK kvs))) G → Q' (f k) G → tt ((wipe σ [s]).set s (some (kV k))) G Q')
    (he : ∀ (od : Obj) (i : Nat) (k : Key) (v : V) (G : Hp) (Q' : VK), kvs[i]? = some (k, v) → f k = true → Same (upd H d (.frz od (.dK kvs))) G → Q' (g (k, v)) G → tv ((wipe σ [s]).set s (some (kV k))) G Q')
    (hn : ∀ i, (wipe σ [s]).length = i → s < i)
    (k : ∀ D H', H D = none → Same H H' → H' D = some (.dK ((kvs.filter fun kv => f kv.1).map fun kv => (kv.1, g kv))) → Q (.ref D) H') : tLockE (tDc (iKeys td) (gName s) tt (tVar s) tv [s]) σ H Q := by
  have hs : s < (wipe σ [s]).length := hn _ rfl
  refine ⟨d, _, e, trivial, fun od => htd od _ (Same.refl _) _ ⟨d, od, rfl, .inl ⟨kvs, upd_same, fun D hD => ?_⟩⟩⟩
  have nD : D ≠ d := fun z => by rw [z, upd_same] at hD; cases hD
  have hD0 : H D = none := by rw [upd_ne nD] at hD; exact hD
  let Pv : Nat → Hp → Prop := fun i G => Same (upd H d (.frz od (.dK kvs))) G ∧ G D = some (.dK (((kvs.take i).filter fun kv => f kv.1).map fun kv => (kv.1, g kv)))
  have step : ∀ i x G G', i < kvs.length → Pv i G → (G' = G ∧ ∃ k v, kvs[i]? = some (k, v) ∧ x = kV k) → gName s x (wipe σ [s]) G' fun σ2 H2 => wipe σ2 [s] = wipe σ [s] ∧ tt σ2 H2 fun b H3 =>
      if b = true then tVar s σ2 H3 fun y H4 => tv σ2 H4 fun z H5 => ∃ kvs' k', y = kV k' ∧ H5 D = some (.dK kvs') ∧ kvs'.length < sizeLine ∧ Pv (i + 1) (upd H5 D (.dK (putK kvs' k' z))) else Pv (i + 1) H3 := fun i x G G' hi hG hy => by
    obtain ⟨rfl, key, v, hkv, rfl⟩ := hy
    have hfl : ((kvs.take i).filter fun kv => f kv.1).length ≤ 90000 := Nat.le_trans (List.length_filter_le _ _) (by rw [List.length_take]; omega)
    refine ⟨hw _, ht od i key v _ _ hkv hG.1 ?_⟩
    have hts := take_filter (fun kv : Key × V => f kv.1) hkv
    cases hf : f key with
    | true =>
      refine (if_pos rfl).mpr ⟨kV key, by rw [List.getElem?_set_self hs], he od i key v _ _ hkv hf hG.1 ⟨_, key, rfl, hG.2, szl (by rw [List.length_map]; omega), same_put hG.1 hD, ?_⟩⟩
      rw [upd_same, hts, List.map_append, put_fresh]
      · simp only [hf, if_true]
        rfl
      · intro kv hm
        obtain ⟨y, hy, rfl⟩ := List.mem_map.mp hm
        exact nd_ne nd hkv y (List.mem_filter.mp hy).1
    | false =>
      refine (if_neg Bool.false_ne_true).mpr ⟨hG.1, ?_⟩
      rw [hts]
      simp only [hf, Bool.false_eq_true, if_false, List.append_nil]
      exact hG.2
  refine ⟨fun i m G => m = kvs.length - i ∧ i ≤ kvs.length ∧ Pv i G, ⟨kvs.length, by simp, Nat.zero_le _, same_upd hD, upd_same⟩, ?_⟩
  rintro i m G ⟨rfl, hi, hP⟩
  by_cases hlt : i < kvs.length
  · exact .inr ⟨⟨hP.1 _ _ upd_same, hlt⟩, Pv (i + 1), fun G' p' => ⟨kvs.length - (i + 1), by omega, rfl, hlt, p'⟩, fun x G' y => step i x G G' hlt hP y⟩
  · have ei : i = kvs.length := by omega
    subst ei
    obtain ⟨h1, h2⟩ := hP
    rw [List.take_length] at h2
    refine .inl ⟨⟨h1 _ _ upd_same, Nat.le_refl _⟩, h1 _ _ upd_same, k D _ hD0 (unlock e h1) ?_⟩
    rw [upd_ne nD]
    exact h2
/-! the same within a comprehension -/
section
variable {K : PySem.W.Frag} {X : Cx} {pos : Pos}
theorem pgK_tup {es : List Expr} {k : Nat} {t : TGs} {n : Nat} (hK : X.K = K) (hc : X.calm = true) (h : PGs X es t)
    (hn : (assignEach es X.env).length = n := by rfl) (hst : (assignEach es X.env).findIdx? (·.1) = none := by rfl) : PG X (.Tuple es k pos) (gTup K n t) := by subst hK; exact pg_tup hc h hn hst
theorem opK_in (h : X.K = K) : OpR X (compareOp .In) (rIn K false) := by subst h; exact op_in_seq
theorem opK_notIn (h : X.K = K) : OpR X (compareOp .NotIn) (rIn K true) := by subst h; exact op_notIn_seq
theorem opK_eqD (h : X.K = K) (hu : X.A.units + 64 < cLine) : OpR X (compareOp .Eq) (rEqD K) := by subst h; exact op_eqD hu
theorem opK_neD (h : X.K = K) (hu : X.A.units + 64 < cLine) : OpR X (compareOp .NotEq) (rNeD K) := by subst h; exact op_neD hu
theorem callK_isi (h : X.K = K) : CallR X (.builtin "isinstance") (rIsi K) := by subst h; exact call_isi
theorem slK_tup (h : X.K = K) : SlR X (rSlT K) := by subst h; exact sl_tup
end
end My
namespace My
open PySem PySem.Spec PyProof.Rows L2
/-! # a calculus of data: what a text without objects does -/
theorem upd_eq {H : Hp} {a b : Addr} {o : HO} (h : b = a) : upd H a o b = some o := by rw [h]; exact upd_same
abbrev AP := Addr → Prop
/-! data whose lists are lists -/
mutual
inductive Dq (K : PySem.W.Frag) (H : Hp) : V → PyData → Prop
  | non : Dq K H .non .none
  | bl (b : Bool) : Dq K H (.bl b) (.bool b)
  | int (i : Int) : Dq K H (.int i) (.int i)
  | str (x : Str) : Dq K H (.str x) (.str x)
  | lst {a : Addr} {xs : List V} {ds : List PyData} : H a = some (.lst xs) → DqAll K H xs ds → Dq K H (.ref a) (.list ds)
  | tup {a : Addr} {xs : List V} {ds : List PyData} : H a = some (.tup xs) → DqAll K H xs ds → Dq K H (.ref a) (.tuple ds)
inductive DqAll (K : PySem.W.Frag) (H : Hp) : List V → List PyData → Prop
  | nil : DqAll K H [] []
  | cons {v : V} {vs : List V} {d : PyData} {ds : List PyData} : Dq K H v d → DqAll K H vs ds → DqAll K H (v :: vs) (d :: ds)
end
mutual
theorem Dq.dp {K : PySem.W.Frag} {H : Hp} : ∀ (d : PyData) {v : V}, Dq K H v d → Dp K H v d
  | _, _, .non => .non
  | _, _, .bl b => .bl b
  | _, _, .int i => .int i
  | _, _, .str x => .str x
  | .list ds, _, .lst h a => .lst (sql h) (DqAll.dp ds a)
  | .tuple ds, _, .tup h a => .tup (sqt h) (DqAll.dp ds a)
theorem DqAll.dp {K : PySem.W.Frag} {H : Hp} : ∀ (ds : List PyData) {vs : List V}, DqAll K H vs ds → DpAll K H vs ds
  | [], _, .nil => .nil
  | d :: ds, _, .cons h a => .cons (Dq.dp d h) (DqAll.dp ds a)
end
mutual
theorem dq_same {K : PySem.W.Frag} {H H' : Hp} (e : Same H H') : ∀ (d : PyData) {v : V}, Dq K H v d → Dq K H' v d
  | _, _, .non => .non
  | _, _, .bl b => .bl b
  | _, _, .int i => .int i
  | _, _, .str x => .str x
  | .list ds, _, .lst h a => .lst (e _ _ h) (dqa_same e ds a)
  | .tuple ds, _, .tup h a => .tup (e _ _ h) (dqa_same e ds a)
theorem dqa_same {K : PySem.W.Frag} {H H' : Hp} (e : Same H H') : ∀ (ds : List PyData) {vs : List V}, DqAll K H vs ds → DqAll K H' vs ds
  | [], _, .nil => .nil
  | d :: ds, _, .cons h a => .cons (dq_same e d h) (dqa_same e ds a)
end
theorem dqa_len {K : PySem.W.Frag} {H : Hp} : ∀ {vs : List V} {ds : List PyData}, DqAll K H vs ds → vs.length = ds.length
  | _, _, .nil => rfl
  | _, _, .cons _ a => by rw [List.length_cons, List.length_cons, dqa_len a]
theorem dqa_at {K : PySem.W.Frag} {H : Hp} : ∀ {vs : List V} {ds : List PyData} {i : Nat} {d : PyData}, DqAll K H vs ds → ds[i]? = some d → ∃ v, vs[i]? = some v ∧ Dq K H v d
  | _, _, _, _, .nil, h => by simp at h
  | _, _, 0, _, .cons h _, e => ⟨_, rfl, by have := Option.some.inj e; subst this; exact h⟩
  | _, _, i + 1, _, .cons _ a, e => dqa_at (i := i) a (by simpa using e)
theorem dqa_atV {K : PySem.W.Frag} {H : Hp} {vs : List V} {ds : List PyData} {i : Nat} {v : V} (h : DqAll K H vs ds) (e : vs[i]? = some v) : ∃ d, ds[i]? = some d ∧ Dq K H v d := by
  have hi := (List.getElem?_eq_some_iff.mp e).1
  have hd : ds[i]? = some (ds[i]'(by rw [← dqa_len h]; exact hi)) := List.getElem?_eq_getElem _
  obtain ⟨v', h1, h2⟩ := dqa_at h hd
  rw [e] at h1
  cases h1
  exact ⟨_, hd, h2⟩
theorem dqa_app {K : PySem.W.Frag} {H : Hp} : ∀ {vs ws : List V} {ds es : List PyData}, DqAll K H vs ds → DqAll K H ws es → DqAll K H (vs ++ ws) (ds ++ es)
  | _, _, _, _, .nil, b => b
  | _, _, _, _, .cons h a, b => .cons h (dqa_app a b)
theorem dqa_take {K : PySem.W.Frag} {H : Hp} : ∀ {vs : List V} {ds : List PyData} (n : Nat), DqAll K H vs ds → DqAll K H (vs.take n) (ds.take n)
  | _, _, 0, _ => by rw [List.take_zero, List.take_zero]; exact .nil
  | _, _, n + 1, .nil => by rw [List.take_nil, List.take_nil]; exact .nil
  | _, _, n + 1, .cons h a => by rw [List.take_succ_cons, List.take_succ_cons]; exact .cons h (dqa_take n a)
theorem dqa_drop {K : PySem.W.Frag} {H : Hp} : ∀ {vs : List V} {ds : List PyData} (n : Nat), DqAll K H vs ds → DqAll K H (vs.drop n) (ds.drop n)
  | _, _, 0, h => h
  | _, _, n + 1, .nil => by rw [List.drop_nil, List.drop_nil]; exact .nil
  | _, _, n + 1, .cons h a => by rw [List.drop_succ_cons, List.drop_succ_cons]; exact dqa_drop n a
/-! scalars -/
def sc : V → PyData
  | .non => .none
  | .bl b => .bool b
  | .int i => .int i
  | .str x => .str x
  | _ => .none
def isSc : V → Bool
  | .non => true
  | .bl _ => true
  | .int _ => true
  | .str _ => true
  | _ => false
theorem dq_sc {K : PySem.W.Frag} {H : Hp} {v : V} (h : isSc v = true) : Dq K H v (sc v) := by
  cases v <;> first | constructor | cases h
theorem dqa_sc {K : PySem.W.Frag} {H : Hp} : ∀ {vs : List V}, vs.all isSc = true → DqAll K H vs (vs.map sc)
  | [], _ => .nil
  | v :: vs, h => by
    rw [List.all_cons, Bool.and_eq_true] at h
    exact .cons (dq_sc h.1) (dqa_sc h.2)
/-- data is a scalar -/
def isScD : PyData → Bool
  | .none => true
  | .bool _ => true
  | .int _ => true
  | .str _ => true
  | _ => false
def scV : PyData → V
  | .none => .non
  | .bool b => .bl b
  | .int i => .int i
  | .str x => .str x
  | _ => .non
theorem dq_scV {K : PySem.W.Frag} {H : Hp} {v : V} {d : PyData} (h : Dq K H v d) (hs : isScD d = true) : v = scV d := by
  cases h <;> first | rfl | cases hs
theorem dq_int {K : PySem.W.Frag} {H : Hp} {v : V} {i : Int} (h : Dq K H v (.int i)) : v = .int i := by cases h; rfl
theorem dq_str {K : PySem.W.Frag} {H : Hp} {v : V} {i : Str} (h : Dq K H v (.str i)) : v = .str i := by cases h; rfl
theorem dq_bl {K : PySem.W.Frag} {H : Hp} {v : V} {i : Bool} (h : Dq K H v (.bool i)) : v = .bl i := by cases h; rfl
theorem dq_non {K : PySem.W.Frag} {H : Hp} {v : V} (h : Dq K H v .none) : v = .non := by cases h; rfl
theorem dq_tup {K : PySem.W.Frag} {H : Hp} {v : V} {ds : List PyData} (h : Dq K H v (.tuple ds)) : ∃ p vs, v = .ref p ∧ SqT K H p vs ∧ DqAll K H vs ds := by cases h with | tup h a => exact ⟨_, _, rfl, sqt h, a⟩
theorem dq_tupH {K : PySem.W.Frag} {H : Hp} {v : V} {ds : List PyData} (h : Dq K H v (.tuple ds)) : ∃ p vs, v = .ref p ∧ H p = some (.tup vs) ∧ DqAll K H vs ds := by cases h with | tup h a => exact ⟨_, _, rfl, h, a⟩
theorem dq_lst {K : PySem.W.Frag} {H : Hp} {v : V} {ds : List PyData} (h : Dq K H v (.list ds)) : ∃ p vs, v = .ref p ∧ H p = some (.lst vs) ∧ DqAll K H vs ds := by cases h with | lst h a => exact ⟨_, _, rfl, h, a⟩
/-! steps: F are the addresses of what may change, B is what never changes -/
structure Stq (F : AP) (H B : Hp) (F' : AP) (H' B' : Hp) : Prop where
  b : Same B B'
  s : Same B' H'
  f : ∀ x, H x ≠ none → B x = none → B' x = none
  k : ∀ x o, H x = some o → ¬ F x → H' x = some o
  n : ∀ x, H x ≠ none → ¬ F x → ¬ F' x
  e : ∀ x, H x ≠ none → H' x ≠ none
section
variable {F F' F1 F2 : AP} {H B H' B' H1 B1 H2 B2 : Hp}
theorem Stq.refl (s : Same B H) : Stq F H B F H B := ⟨Same.refl _, s, fun _ _ h => h, fun _ _ h _ => h, fun _ _ h => h, fun _ h => h⟩
theorem Stq.trans (a : Stq F H B F1 H1 B1) (c : Stq F1 H1 B1 F2 H2 B2) : Stq F H B F2 H2 B2 where
  b := a.b.trans c.b
  s := c.s
  f := fun x h1 h2 => c.f x (a.e x h1) (a.f x h1 h2)
  k := fun x o h n => c.k x o (a.k x o h n) (a.n x (by rw [h]; simp) n)
  n := fun x h n => c.n x (a.e x h) (a.n x h n)
  e := fun x h => c.e x (a.e x h)
theorem Stq.pure (s : Same H H') (b : Same B B') (t : Same B' H') (f : ∀ x, H x ≠ none → B x = none → B' x = none) : Stq F H B F H' B' :=
  ⟨b, t, f, fun x o h _ => s x o h, fun _ _ h => h, fun x h z => by
    cases e : H x with
    | none => exact h e
    | some o => rw [s x o e] at z; cases z⟩
theorem b_none (s : Same B H) {p : Addr} (h : H p = none) : B p = none := by
  cases e : B p with
  | none => rfl
  | some o => rw [s p o e] at h; cases h
theorem same_bothU {p : Addr} {o : HO} (s : Same B H) : Same (upd B p o) (upd H p o) := same_both s
/-- a new thing that stays as it is -/
theorem Stq.newD (s : Same B H) {p : Addr} {o : HO} (hp : H p = none) : Stq F H B F (upd H p o) (upd B p o) :=
  .pure (same_upd hp) (same_upd (b_none s hp)) (same_both s) fun x h1 h2 => by rw [upd_ne (fun z => h1 (by rw [z]; exact hp))]; exact h2
theorem Stq.newO (s : Same B H) {p : Addr} {o : HO} (hp : H p = none) : Stq F H B F (upd H p o) B :=
  .pure (same_upd hp) (Same.refl _) (s.trans (same_upd hp)) fun _ _ h => h
/-- what is new since H and no data changes -/
theorem Stq.put (a : Stq F H B F1 H1 B1) {p : Addr} {o : HO} (h0 : H p = none) (hb : B1 p = none) : Stq F H B F1 (upd H1 p o) B1 where
  b := a.b
  s := fun x u h => by rw [upd_ne (fun z => by rw [z, hb] at h; cases h)]; exact a.s x u h
  f := a.f
  k := fun x u h n => by rw [upd_ne (fun z => by rw [z, h0] at h; cases h)]; exact a.k x u h n
  n := a.n
  e := fun x h => by
    by_cases hx : x = p
    · rw [hx, upd_same]; simp
    · rw [upd_ne hx]; exact a.e x h
end
/-! what may change, by its footprint -/
structure MR (M : Type) where
  rel : M → AP → Hp → Hp → Prop
  frame : ∀ {m F H B H' B'}, rel m F H B → (∀ x, F x → H' x = H x) → Same B B' → (∀ x, F x → B' x = none) → rel m F H' B'
  dom : ∀ {m F H B x}, rel m F H B → F x → H x ≠ none ∧ B x = none
def noM : MR Unit where
  rel := fun _ F _ _ => ∀ x, ¬ F x
  frame := fun h _ _ _ => h
  dom := fun h hx => absurd hx (h _)
/-! what is known of a value -/
inductive Rk where
  | d (x : PyData)
  | o (xs : List PyData)
  | l (xs : List PyData)
  | v (x : V)
  | c (xs : List PyData)
def RelR (K : PySem.W.Frag) (H0 : Hp) (F : AP) (H B : Hp) (v : V) : Rk → Prop
  | .d x => Dq K B v x
  | .o xs => ∃ p vs, v = .ref p ∧ H p = some (.lst vs) ∧ B p = none ∧ ¬ F p ∧ H0 p = none ∧ DqAll K B vs xs
  | .l xs => ∃ p vs, v = .ref p ∧ H p = some (.lst vs) ∧ ¬ F p ∧ DqAll K B vs xs
  | .v x => v = x
  | .c xs => ∃ p vs, v = .ref p ∧ (∀ G, SqT K G p vs) ∧ vs.all isSc = true ∧ vs.map sc = xs
section
variable {K : PySem.W.Frag} {F F' : AP} {H0 Hs H B H' B' : Hp} {v : V} {r : Rk}
theorem RelR.step (h : RelR K H0 F H B v r) (s : Stq F H B F' H' B') : RelR K H0 F' H' B' v r := by
  cases r with
  | d x => exact dq_same s.b x h
  | o xs =>
    obtain ⟨p, vs, rfl, h1, h2, h3, h4, h5⟩ := h
    have hn : H p ≠ none := by rw [h1]; simp
    exact ⟨p, vs, rfl, s.k _ _ h1 h3, s.f _ hn h2, s.n _ hn h3, h4, dqa_same s.b _ h5⟩
  | l xs =>
    obtain ⟨p, vs, rfl, h1, h3, h5⟩ := h
    have hn : H p ≠ none := by rw [h1]; simp
    exact ⟨p, vs, rfl, s.k _ _ h1 h3, s.n _ hn h3, dqa_same s.b _ h5⟩
  | v x => exact h
  | c x => exact h
theorem RelR.base (h : RelR K H0 F H B v r) (e : ∀ x, Hs x ≠ none → H0 x ≠ none) : RelR K Hs F H B v r := by
  cases r with
  | o xs =>
    obtain ⟨p, vs, rfl, h1, h2, h3, h4, h5⟩ := h
    exact ⟨p, vs, rfl, h1, h2, h3, Classical.byContradiction fun z => e p z h4, h5⟩
  | d x => exact h
  | l xs => exact h
  | v x => exact h
  | c x => exact h
end
def RelA (K : PySem.W.Frag) (H0 : Hp) (F : AP) (H B : Hp) : List V → List Rk → Prop
  | [], [] => True
  | v :: vs, r :: rs => RelR K H0 F H B v r ∧ RelA K H0 F H B vs rs
  | _, _ => False
theorem RelA.step {K : PySem.W.Frag} {F F' : AP} {H0 H B H' B' : Hp} (s : Stq F H B F' H' B') : ∀ {vs : List V} {rs : List Rk}, RelA K H0 F H B vs rs → RelA K H0 F' H' B' vs rs
  | [], [], _ => True.intro
  | _ :: _, _ :: _, h => ⟨h.1.step s, h.2.step s⟩
  | [], _ :: _, h => h.elim
  | _ :: _, [], h => h.elim
/-! what is known of a slot -/
inductive Sl where
  | u
  | d (x : PyData)
  | o (xs : List PyData)
  | v (x : V)
  | l (xs : List PyData)
def SlD (K : PySem.W.Frag) (H0 : Hp) (F : AP) (H B : Hp) (w : Option V) : Sl → Prop
  | .u => True
  | .d x => ∃ v, w = some v ∧ Dq K B v x
  | .o xs => ∃ p vs, w = some (.ref p) ∧ H p = some (.lst vs) ∧ B p = none ∧ ¬ F p ∧ H0 p = none ∧ DqAll K B vs xs
  | .v x => w = some x
  | .l xs => ∃ p vs, w = some (.ref p) ∧ H p = some (.lst vs) ∧ ¬ F p ∧ H0 p ≠ none ∧ DqAll K B vs xs
theorem SlD.step {K : PySem.W.Frag} {F F' : AP} {H0 H B H' B' : Hp} {w : Option V} {s : Sl} (h : SlD K H0 F H B w s) (q : Stq F H B F' H' B') : SlD K H0 F' H' B' w s := by
  cases s with
  | u => exact True.intro
  | d x => obtain ⟨v, h1, h2⟩ := h; exact ⟨v, h1, dq_same q.b x h2⟩
  | o xs =>
    obtain ⟨p, vs, rfl, h1, h2, h3, h4, h5⟩ := h
    have hn : H p ≠ none := by rw [h1]; simp
    exact ⟨p, vs, rfl, q.k _ _ h1 h3, q.f _ hn h2, q.n _ hn h3, h4, dqa_same q.b _ h5⟩
  | v x => exact h
  | l xs =>
    obtain ⟨p, vs, rfl, h1, h3, h4, h5⟩ := h
    have hn : H p ≠ none := by rw [h1]; simp
    exact ⟨p, vs, rfl, q.k _ _ h1 h3, q.n _ hn h3, h4, dqa_same q.b _ h5⟩
structure DS {M : Type} (R : MR M) (K : PySem.W.Frag) (E : XK) (XP : Addr → M → Prop) (F0 : AP) (H0 B0 : Hp) (F : AP) (H B : Hp) (σ : L2.St) (ρ : List Sl) (m : M) : Prop where
  l : σ.length = ρ.length
  st : Stq F0 H0 B0 F H B
  r : R.rel m F H B
  s : ∀ (i : Nat) (t : Sl), ρ[i]? = some t → ∃ w, σ[i]? = some w ∧ SlD K H0 F H B w t
  oo : ∀ (i j : Nat) (p : Addr) (xs ys : List PyData), ρ[i]? = some (.o xs) → ρ[j]? = some (.o ys) → σ[i]? = some (some (.ref p)) → σ[j]? = some (some (.ref p)) → i = j
  x : ∀ C m' F' H' B', XP C m' → Stq F0 H0 B0 F' H' B' → R.rel m' F' H' B' → E (.ref C) none H'
section
variable {M : Type} {R : MR M} {K : PySem.W.Frag} {E : XK} {XP : Addr → M → Prop} {F0 F F' : AP} {H0 B0 H B H' B' : Hp} {σ : L2.St} {ρ : List Sl} {m m' : M}
theorem DS.step (h : DS R K E XP F0 H0 B0 F H B σ ρ m) (q : Stq F H B F' H' B') (r : R.rel m' F' H' B') : DS R K E XP F0 H0 B0 F' H' B' σ ρ m' :=
  ⟨h.l, h.st.trans q, r, fun i t ht => by obtain ⟨w, h1, h2⟩ := h.s i t ht; exact ⟨w, h1, h2.step q⟩, h.oo, h.x⟩
theorem DS.pure (h : DS R K E XP F0 H0 B0 F H B σ ρ m) (s : Same H H') (b : Same B B') (t : Same B' H') (f : ∀ x, H x ≠ none → B x = none → B' x = none) : DS R K E XP F0 H0 B0 F H' B' σ ρ m :=
  h.step (.pure s b t f) (R.frame h.r (fun x hx => by
    obtain ⟨h1, _⟩ := R.dom h.r hx
    cases e : H x with
    | none => exact absurd e h1
    | some o => exact s x o e) b fun x hx => f x (R.dom h.r hx).1 (R.dom h.r hx).2)
theorem DS.newD (h : DS R K E XP F0 H0 B0 F H B σ ρ m) {p : Addr} {o : HO} (hp : H p = none) : DS R K E XP F0 H0 B0 F (upd H p o) (upd B p o) σ ρ m :=
  h.pure (same_upd hp) (same_upd (b_none h.st.s hp)) (same_both h.st.s) fun x h1 h2 => by rw [upd_ne (fun z => h1 (by rw [z]; exact hp))]; exact h2
theorem DS.newO (h : DS R K E XP F0 H0 B0 F H B σ ρ m) {p : Addr} {o : HO} (hp : H p = none) : DS R K E XP F0 H0 B0 F (upd H p o) B σ ρ m :=
  h.pure (same_upd hp) (Same.refl _) (h.st.s.trans (same_upd hp)) fun _ _ z => z
theorem DS.nF (h : DS R K E XP F0 H0 B0 F H B σ ρ m) {p : Addr} (hp : H p = none) : ¬ F p := fun z => (R.dom h.r z).1 hp
theorem DS.nFB (h : DS R K E XP F0 H0 B0 F H B σ ρ m) {p : Addr} {o : HO} (hp : B p = some o) : ¬ F p := fun z => by have := (R.dom h.r z).2; rw [hp] at this; cases this
end
/-! ## expressions -/
section
variable {M : Type} (R : MR M) (K : PySem.W.Frag) (E : XK) (XP : Addr → M → Prop)
@[irreducible] def WE (ρ : List Sl) (m : M) (te : TE) (k : Rk → M → Prop) : Prop := ∀ {F0 H0 B0 F H B σ}, DS R K E XP F0 H0 B0 F H B σ ρ m → ∀ Q : VK, (∀ v r m' F' H' B', k r m' → DS R K E XP F0 H0 B0 F' H' B' σ ρ m' → Stq F H B F' H' B' → RelR K H F' H' B' v r → Q v H') → te σ H Q
@[irreducible] def WA (ρ : List Sl) (m : M) (ta : TA) (k : List Rk → M → Prop) : Prop := ∀ {F0 H0 B0 F H B σ}, DS R K E XP F0 H0 B0 F H B σ ρ m → ∀ Q : List V → Hp → Prop, (∀ vs rs m' F' H' B', k rs m' → DS R K E XP F0 H0 B0 F' H' B' σ ρ m' → Stq F H B F' H' B' → RelA K H F' H' B' vs rs → Q vs H') → ta σ H Q
@[irreducible] def WT (ρ : List Sl) (m : M) (tt : TT) (k : Bool → M → Prop) : Prop := ∀ {F0 H0 B0 F H B σ}, DS R K E XP F0 H0 B0 F H B σ ρ m → ∀ Q : Bool → Hp → Prop, (∀ b m' F' H' B', k b m' → DS R K E XP F0 H0 B0 F' H' B' σ ρ m' → Stq F H B F' H' B' → Q b H') → tt σ H Q
/-- an operator by what is known of its two sides -/
@[irreducible] def OpP (ρ : List Sl) (m : M) (r : R2) (a b : Rk) (k : Rk → M → Prop) : Prop := ∀ {F0 H0 B0 F H B σ Hs x y}, DS R K E XP F0 H0 B0 F H B σ ρ m → RelR K Hs F H B x a → RelR K Hs F H B y b → ∀ Q : VK, (∀ v c m' F' H' B', k c m' → DS R K E XP F0 H0 B0 F' H' B' σ ρ m' → Stq F H B F' H' B' → RelR K H F' H' B' v c → Q v H') → r x y H Q
@[irreducible] def CbP (ρ : List Sl) (m : M) (r : List V → Hp → VK → Prop) (rs : List Rk) (k : Rk → M → Prop) : Prop := ∀ {F0 H0 B0 F H B σ Hs vs}, DS R K E XP F0 H0 B0 F H B σ ρ m → RelA K Hs F H B vs rs → ∀ Q : VK, (∀ v c m' F' H' B', k c m' → DS R K E XP F0 H0 B0 F' H' B' σ ρ m' → Stq F H B F' H' B' → RelR K H F' H' B' v c → Q v H') → r vs H Q
end
section
variable {M : Type} {R : MR M} {K : PySem.W.Frag} {E : XK} {XP : Addr → M → Prop} {ρ : List Sl} {m : M} {k : Rk → M → Prop} {ta tb tc te : TE} {i : Nat}
theorem we_var {x : PyData} (h : ρ[i]? = some (.d x)) (hk : k (.d x) m) : WE R K E XP ρ m (tVar i) k := by with_unfolding_all exact (fun D Q q => by
  obtain ⟨w, h1, v, rfl, h2⟩ := D.s i _ h
  exact ⟨v, h1, q v _ m _ _ _ hk D (.refl D.st.s) h2⟩)
theorem we_varO {xs : List PyData} (h : ρ[i]? = some (.o xs)) (hk : k (.l xs) m) : WE R K E XP ρ m (tVar i) k := by with_unfolding_all exact (fun D Q q => by
  obtain ⟨w, h1, p, vs, rfl, h2, h3, h4, h5, h6⟩ := D.s i _ h
  exact ⟨_, h1, q _ (.l xs) m _ _ _ hk D (.refl D.st.s) ⟨p, vs, rfl, h2, h4, h6⟩⟩)
theorem we_varV {x : V} (h : ρ[i]? = some (.v x)) (hk : k (.v x) m) : WE R K E XP ρ m (tVar i) k := by with_unfolding_all exact (fun D Q q => by
  obtain ⟨w, h1, rfl⟩ := D.s i _ h
  exact ⟨x, h1, q x (.v x) m _ _ _ hk D (.refl D.st.s) rfl⟩)
theorem we_c {v : V} (hv : isSc v = true) (hk : k (.d (sc v)) m) : WE R K E XP ρ m (tC v) k := by with_unfolding_all exact (fun D Q q => q v _ m _ _ _ hk D (.refl D.st.s) (dq_sc hv))
theorem we_int {i : Int} (hk : k (.d (.int i)) m) : WE R K E XP ρ m (tC (.int i)) k := we_c rfl hk
theorem we_str {i : Str} (hk : k (.d (.str i)) m) : WE R K E XP ρ m (tC (.str i)) k := we_c rfl hk
theorem we_bl {i : Bool} (hk : k (.d (.bool i)) m) : WE R K E XP ρ m (tC (.bl i)) k := we_c rfl hk
theorem we_non (hk : k (.d .none) m) : WE R K E XP ρ m (tC .non) k := we_c rfl hk
theorem we_cV {v : V} (hk : k (.v v) m) : WE R K E XP ρ m (tC v) k := by with_unfolding_all exact (fun D Q q => q v _ m _ _ _ hk D (.refl D.st.s) rfl)
/-- a written tuple of scalars -/
theorem we_cT {p : Addr} {vs : List V} (hT : ∀ H, SqT K H p vs) (hv : vs.all isSc = true) (hk : k (.c (vs.map sc)) m) : WE R K E XP ρ m (tC (.ref p)) k := by with_unfolding_all exact (fun D Q q => q _ _ m _ _ _ hk D (.refl D.st.s) ⟨p, vs, rfl, hT, hv, rfl⟩)
theorem we_op {r : R2} (h : WE R K E XP ρ m ta fun a m1 => WE R K E XP ρ m1 tb fun b m2 => OpP R K E XP ρ m2 r a b k) : WE R K E XP ρ m (tOp r ta tb) k := by with_unfolding_all exact (fun D Q q =>
  h D _ fun v a m1 F1 H1 B1 k1 D1 q1 r1 => k1 D1 _ fun w b m2 F2 H2 B2 k2 D2 q2 r2 => k2 D2 (r1.step q2) (r2.base fun x hx => q1.e x hx) _ fun v c m' F' H' B' k3 D3 q3 r3 => q v c m' F' H' B' k3 D3 (q1.trans (q2.trans q3)) (r3.base fun x hx => q2.e x (q1.e x hx)))
theorem wa_nil {k : List Rk → M → Prop} (hk : k [] m) : WA R K E XP ρ m tNil k := by with_unfolding_all exact (fun D Q q => q [] [] m _ _ _ hk D (.refl D.st.s) True.intro)
theorem relA_base {H0 Hs : Hp} {F : AP} {H B : Hp} (e : ∀ x, Hs x ≠ none → H0 x ≠ none) : ∀ {vs : List V} {rs : List Rk}, RelA K H0 F H B vs rs → RelA K Hs F H B vs rs
  | [], [], _ => True.intro
  | _ :: _, _ :: _, h => ⟨h.1.base e, relA_base e h.2⟩
  | [], _ :: _, h => h.elim
  | _ :: _, [], h => h.elim
theorem wa_cons {k : List Rk → M → Prop} {tr : TA} (h : WE R K E XP ρ m ta fun a m1 => WA R K E XP ρ m1 tr fun rs m2 => k (a :: rs) m2) : WA R K E XP ρ m (tCons ta tr) k := by with_unfolding_all exact (fun D Q q =>
  h D _ fun v a m1 F1 H1 B1 k1 D1 q1 r1 => k1 D1 _ fun vs rs m2 F2 H2 B2 k2 D2 q2 r2 => q _ _ m2 F2 H2 B2 k2 D2 (q1.trans q2) ⟨r1.step q2, relA_base (fun x hx => q1.e x hx) r2⟩)
theorem we_cb {r : List V → Hp → VK → Prop} {tr : TA} (h : WA R K E XP ρ m tr fun rs m1 => CbP R K E XP ρ m1 r rs k) : WE R K E XP ρ m (tCB r tr) k := by with_unfolding_all exact (fun D Q q =>
  h D _ fun vs rs m1 F1 H1 B1 k1 D1 q1 r1 => k1 D1 r1 _ fun v c m' F' H' B' k3 D3 q3 r3 => q v c m' F' H' B' k3 D3 (q1.trans q3) (r3.base fun x hx => q1.e x hx))
/-! tests -/
theorem wt_test {k : Bool → M → Prop} (h : WE R K E XP ρ m te fun r m1 => ∃ b, r = .d (.bool b) ∧ k b m1) : WT R K E XP ρ m (tTest te) k := by with_unfolding_all exact (fun D Q q =>
  h D _ fun v r m1 F1 H1 B1 ⟨b, e, k1⟩ D1 q1 r1 => by
    subst e
    exact ⟨b, dq_bl r1, q b m1 _ _ _ k1 D1 q1⟩)
theorem wt_b {k : Bool → M → Prop} (h : WE R K E XP ρ m te fun r m1 => ∃ b, r = .d (.bool b) ∧ k b m1) : WT R K E XP ρ m (tB te) k := by with_unfolding_all exact (fun D Q q =>
  h D _ fun v r m1 F1 H1 B1 ⟨b, e, k1⟩ D1 q1 r1 => by
    subst e
    exact ⟨b, dq_bl r1, q b m1 _ _ _ k1 D1 q1⟩)
theorem wt_not {k : Bool → M → Prop} {t : TT} (h : WT R K E XP ρ m t fun b m1 => k (!b) m1) : WT R K E XP ρ m (tNot t) k := by with_unfolding_all exact (fun D Q q => h D _ fun b m1 F1 H1 B1 k1 D1 q1 => q _ m1 _ _ _ k1 D1 q1)
theorem wt_and {k : Bool → M → Prop} {t u : TT} (h : WT R K E XP ρ m t fun b m1 => (b = true → WT R K E XP ρ m1 u k) ∧ (b = false → k false m1)) : WT R K E XP ρ m (tAnd t u) k := by with_unfolding_all exact (fun D Q q => h D _ fun b m1 F1 H1 B1 k1 D1 q1 => by
  cases b with
  | true => exact (if_pos rfl).mpr (k1.1 rfl D1 _ fun c m2 F2 H2 B2 k2 D2 q2 => q c m2 _ _ _ k2 D2 (q1.trans q2))
  | false => exact (if_neg Bool.false_ne_true).mpr (q _ m1 _ _ _ (k1.2 rfl) D1 q1))
theorem wt_or {k : Bool → M → Prop} {t u : TT} (h : WT R K E XP ρ m t fun b m1 => (b = false → WT R K E XP ρ m1 u k) ∧ (b = true → k true m1)) : WT R K E XP ρ m (tOr t u) k := by with_unfolding_all exact (fun D Q q => h D _ fun b m1 F1 H1 B1 k1 D1 q1 => by
  cases b with
  | false => exact (if_neg Bool.false_ne_true).mpr (k1.1 rfl D1 _ fun c m2 F2 H2 B2 k2 D2 q2 => q c m2 _ _ _ k2 D2 (q1.trans q2))
  | true => exact (if_pos rfl).mpr (q _ m1 _ _ _ (k1.2 rfl) D1 q1))
theorem we_andV (h : WE R K E XP ρ m ta fun r m1 => ∃ b, r = .d (.bool b) ∧ (b = true → WE R K E XP ρ m1 tb k) ∧ (b = false → k (.d (.bool false)) m1)) : WE R K E XP ρ m (tAndV ta tb) k := by with_unfolding_all exact (fun D Q q =>
  h D _ fun v r m1 F1 H1 B1 ⟨b, e, k1, k2⟩ D1 q1 r1 => by
    subst e
    refine ⟨b, dq_bl r1, ?_⟩
    cases b with
    | true => exact (if_pos rfl).mpr (k1 rfl D1 _ fun v c m' F' H' B' k3 D3 q3 r3 => q v c m' F' H' B' k3 D3 (q1.trans q3) (r3.base fun x hx => q1.e x hx))
    | false => exact (if_neg Bool.false_ne_true).mpr (q _ _ m1 _ _ _ (k2 rfl) D1 q1 (.bl false)))
theorem we_orV (h : WE R K E XP ρ m ta fun r m1 => ∃ b, r = .d (.bool b) ∧ (b = false → WE R K E XP ρ m1 tb k) ∧ (b = true → k (.d (.bool true)) m1)) : WE R K E XP ρ m (tOrV ta tb) k := by with_unfolding_all exact (fun D Q q =>
  h D _ fun v r m1 F1 H1 B1 ⟨b, e, k1, k2⟩ D1 q1 r1 => by
    subst e
    refine ⟨b, dq_bl r1, ?_⟩
    cases b with
    | false => exact (if_neg Bool.false_ne_true).mpr (k1 rfl D1 _ fun v c m' F' H' B' k3 D3 q3 r3 => q v c m' F' H' B' k3 D3 (q1.trans q3) (r3.base fun x hx => q1.e x hx))
    | true => exact (if_pos rfl).mpr (q _ _ m1 _ _ _ (k2 rfl) D1 q1 (.bl true)))
theorem we_notV (h : WE R K E XP ρ m ta fun r m1 => ∃ b, r = .d (.bool b) ∧ k (.d (.bool (!b))) m1) : WE R K E XP ρ m (tNotV ta) k := by with_unfolding_all exact (fun D Q q =>
  h D _ fun v r m1 F1 H1 B1 ⟨b, e, k1⟩ D1 q1 r1 => by
    subst e
    exact ⟨b, dq_bl r1, q _ _ m1 _ _ _ k1 D1 q1 (.bl _)⟩)
theorem we_if {t : TT} (h : WT R K E XP ρ m t fun b m1 => (b = true → WE R K E XP ρ m1 ta k) ∧ (b = false → WE R K E XP ρ m1 tb k)) : WE R K E XP ρ m (tIf t ta tb) k := by with_unfolding_all exact (fun D Q q =>
  h D _ fun b m1 F1 H1 B1 k1 D1 q1 => by
    cases b with
    | true => exact (if_pos rfl).mpr (k1.1 rfl D1 _ fun v c m' F' H' B' k3 D3 q3 r3 => q v c m' F' H' B' k3 D3 (q1.trans q3) (r3.base fun x hx => q1.e x hx))
    | false => exact (if_neg Bool.false_ne_true).mpr (k1.2 rfl D1 _ fun v c m' F' H' B' k3 D3 q3 r3 => q v c m' F' H' B' k3 D3 (q1.trans q3) (r3.base fun x hx => q1.e x hx)))
end
/-! ## operators and calls of built-ins -/
/-- an item of a list of data -/
def LR : Rk → List PyData → Prop
  | .d (.list xs), ys => xs = ys
  | .o xs, ys => xs = ys
  | .l xs, ys => xs = ys
  | _, _ => False
def isNoneD : PyData → Bool
  | .none => true
  | _ => false
/-- kinds for isinstance -/
def kindD : PyData → String
  | .none => "NoneType"
  | .bool _ => "bool"
  | .int _ => "int"
  | .str _ => "str"
  | .list _ => "list"
  | .tuple _ => "tuple"
  | .dict _ => "dict"
def isKD (k t : String) : Bool := k == t || (k == "bool" && t == "int")
theorem dq_tyx {K : PySem.W.Frag} {H : Hp} {v : V} {d : PyData} (h : Dq K H v d) : TyX K H v (.type (kindD d)) := by
  cases h with
  | non => exact .base .non
  | bl b => exact .base (.bl b)
  | int i => exact .base (.int i)
  | str x => exact .base (.str x)
  | lst h _ => exact tyx_l (sql h)
  | tup h _ => exact tyx_t (sqt h)
theorem dp_tyxD {K : PySem.W.Frag} {H : Hp} {v : V} {d : PyData} (h : Dp K H v d) : TyX K H v (.type (kindD d)) := by
  cases h with
  | non => exact .base .non
  | bl b => exact .base (.bl b)
  | int i => exact .base (.int i)
  | str x => exact .base (.str x)
  | lst h _ => exact tyx_l h
  | tup h _ => exact tyx_t h
theorem kindD_dp {K : PySem.W.Frag} {H : Hp} {v : V} {d : PyData} (h : Dp K H v d) : kindD d ∈ (["NoneType", "bool", "int", "str", "list", "tuple"] : List String) := by cases h <;> simp [kindD]
theorem kitKD : ∀ k ∈ (["NoneType", "bool", "int", "str", "list", "tuple"] : List String), ∀ t ∈ (["bool", "int", "str", "tuple", "list"] : List String), kitB k t = some (isKD k t) := by decide +kernel
theorem kindD_in {K : PySem.W.Frag} {H : Hp} {v : V} {d : PyData} (h : Dq K H v d) : kindD d ∈ (["NoneType", "bool", "int", "str", "list", "tuple"] : List String) := by
  cases h <;> simp [kindD]
/-! readings by name -/
def rAddS : R2 := fun x y H Q => ∃ i j, x = .str i ∧ y = .str j ∧ i.length + j.length ≤ sizeLine ∧ Q (.str (i ++ j)) H
theorem op_addS {X : Cx} : OpR X (binaryOp .Add) rAddS := op_add_str
def rLtS : R2 := fun x y H Q => ∃ i j, x = .str i ∧ y = .str j ∧ Q (.bl (decide (i.cps.toList < j.cps.toList))) H
theorem op_ltS {X : Cx} : OpR X (compareOp .Lt) rLtS := op_lt_str
def rLenS : List V → Hp → VK → Prop := fun xs H Q => ∃ z, xs = [.str z] ∧ z.length ≤ sizeLine ∧ Q (.int z.length) H
theorem call_lenS {X : Cx} : CallR X (.builtin "len") rLenS := call_len_str
def rInt1 : List V → Hp → VK → Prop := fun xs H Q => (∃ i, xs = [.int i] ∧ Q (.int i) H) ∨ ∃ k, xs = [.bl k] ∧ Q (.int (if k then 1 else 0)) H
theorem call_intN {X : Cx} : CallR X (.type "int") rInt1 := call_int1
def rStrI : List V → Hp → VK → Prop := fun xs H Q => ∃ i, xs = [.int i] ∧ i.natAbs.log2 < 1920 ∧ Q (.str (toString i)) H
theorem call_strN {X : Cx} : CallR X (.type "str") rStrI := call_str_int
theorem opK_inD {K : PySem.W.Frag} {X : Cx} (h : X.K = K) (hu : X.A.units + 65 < cLine) : OpR X (compareOp .In) (rInD K) := by subst h; exact op_inD hu
theorem opK_notInD {K : PySem.W.Frag} {X : Cx} (h : X.K = K) (hu : X.A.units + 65 < cLine) : OpR X (compareOp .NotIn) (rNotInD K) := by subst h; exact op_notInD hu
theorem slK_tupA {K : PySem.W.Frag} {X : Cx} (h : X.K = K) : SlR X (rSlA K) := by subst h; exact sl_tupA
theorem slKx_list {K : PySem.W.Frag} {X : Cx} (h : X.K = K) : SlR X (rSlL K) := by subst h; exact sl_list
theorem piK_list {K : PySem.W.Frag} {X : Cx} {tg l : Expr} {tl : TE} (h : X.K = K) (hl : PE X l tl) : PI X tg l (iList K tl) := by subst h; exact pi_list hl
theorem piK_tup {K : PySem.W.Frag} {X : Cx} {tg l : Expr} {tl : TE} (h : X.K = K) (hl : PE X l tl) : PI X tg l (iTup K tl) := by subst h; exact pi_tup hl
theorem ptK_truth {K : PySem.W.Frag} {X : Cx} {a : Expr} {ta : TE} (h : X.K = K) (ha : PE X a ta) (he : ∀ whole, isTrue a X.env whole = (do let v ← whole; standAt a.pos; holding [v] (truthy v))) : PT X a (tTru K ta) := by subst h; exact pt_truth ha he
section
variable {M : Type} {R : MR M} {K : PySem.W.Frag} {E : XK} {XP : Addr → M → Prop} {ρ : List Sl} {m : M} {k : Rk → M → Prop} {ta tb tc te : TE}
/-- an operator that gives a scalar and changes nothing -/
theorem opP_sc {r : R2} {a b : Rk} {v : V} (hv : isSc v = true) (h : ∀ {Hs F H B x y}, Same B H → RelR K Hs F H B x a → RelR K Hs F H B y b → ∀ Q : VK, Q v H → r x y H Q) (hk : k (.d (sc v)) m) : OpP R K E XP ρ m r a b k := by with_unfolding_all exact (fun D ra rb Q q =>
  h D.st.s ra rb Q (q _ _ m _ _ _ hk D (.refl D.st.s) (dq_sc hv)))
theorem opP_i0 {g : Int → Int → V} {i j : Int} (hk : k (.d (sc (g i j))) m) (hv : isSc (g i j) = true := by rfl) : OpP R K E XP ρ m (rI0 g) (.d (.int i)) (.d (.int j)) k :=
  opP_sc hv (fun _ ra rb Q q => ⟨i, j, dq_int ra, dq_int rb, q⟩) hk
theorem opP_ic {C : Int → Int → Prop} {g : Int → Int → V} {i j : Int} (hc : C i j) (hk : k (.d (sc (g i j))) m) (hv : isSc (g i j) = true := by rfl) : OpP R K E XP ρ m (rI C g) (.d (.int i)) (.d (.int j)) k :=
  opP_sc hv (fun _ ra rb Q q => ⟨i, j, dq_int ra, dq_int rb, hc, q⟩) hk
theorem opP_eqI {i j : Int} (hk : k (.d (.bool (decide (i = j)))) m) : OpP R K E XP ρ m rEq (.d (.int i)) (.d (.int j)) k :=
  opP_sc (v := .bl (decide (i = j))) rfl (fun _ ra rb Q q => by
    rw [dq_int ra, dq_int rb]
    refine ⟨rfl, ?_⟩
    have : decide (V.int i = V.int j) = decide (i = j) := by rw [Bool.eq_iff_iff]; simp
    rw [this]; exact q) hk
theorem opP_neI {i j : Int} (hk : k (.d (.bool (!decide (i = j)))) m) : OpP R K E XP ρ m rNe (.d (.int i)) (.d (.int j)) k :=
  opP_sc (v := .bl (!decide (i = j))) rfl (fun _ ra rb Q q => by
    rw [dq_int ra, dq_int rb]
    refine ⟨rfl, ?_⟩
    have : decide (V.int i = V.int j) = decide (i = j) := by rw [Bool.eq_iff_iff]; simp
    rw [this]; exact q) hk
theorem opP_eqS {i j : Str} (hk : k (.d (.bool (decide (i = j)))) m) : OpP R K E XP ρ m rEq (.d (.str i)) (.d (.str j)) k :=
  opP_sc (v := .bl (decide (i = j))) rfl (fun _ ra rb Q q => by
    rw [dq_str ra, dq_str rb]
    refine ⟨rfl, ?_⟩
    have : decide (V.str i = V.str j) = decide (i = j) := by rw [Bool.eq_iff_iff]; simp
    rw [this]; exact q) hk
theorem opP_neS {i j : Str} (hk : k (.d (.bool (!decide (i = j)))) m) : OpP R K E XP ρ m rNe (.d (.str i)) (.d (.str j)) k :=
  opP_sc (v := .bl (!decide (i = j))) rfl (fun _ ra rb Q q => by
    rw [dq_str ra, dq_str rb]
    refine ⟨rfl, ?_⟩
    have : decide (V.str i = V.str j) = decide (i = j) := by rw [Bool.eq_iff_iff]; simp
    rw [this]; exact q) hk
theorem opP_eqB {i j : Bool} (hk : k (.d (.bool (decide (i = j)))) m) : OpP R K E XP ρ m rEq (.d (.bool i)) (.d (.bool j)) k :=
  opP_sc (v := .bl (decide (i = j))) rfl (fun _ ra rb Q q => by
    rw [dq_bl ra, dq_bl rb]
    refine ⟨rfl, ?_⟩
    have : decide (V.bl i = V.bl j) = decide (i = j) := by rw [Bool.eq_iff_iff]; simp
    rw [this]; exact q) hk
theorem opP_neB {i j : Bool} (hk : k (.d (.bool (!decide (i = j)))) m) : OpP R K E XP ρ m rNe (.d (.bool i)) (.d (.bool j)) k :=
  opP_sc (v := .bl (!decide (i = j))) rfl (fun _ ra rb Q q => by
    rw [dq_bl ra, dq_bl rb]
    refine ⟨rfl, ?_⟩
    have : decide (V.bl i = V.bl j) = decide (i = j) := by rw [Bool.eq_iff_iff]; simp
    rw [this]; exact q) hk
/-- a result as data for deep comparison -/
theorem rel_dp {Hs : Hp} {F : AP} {H B : Hp} {v : V} {r : Rk} {d : PyData} (s : Same B H) (h : RelR K Hs F H B v r) (hr : r = .d d ∨ ∃ xs, d = .list xs ∧ LR r xs) : Dp K H v d := by
  rcases hr with rfl | ⟨xs, rfl, hl⟩
  · exact dp_same s _ (Dq.dp _ h)
  · cases r with
    | d x =>
      cases x with
      | list ys => obtain rfl : ys = xs := hl; exact dp_same s _ (Dq.dp _ h)
      | _ => exact hl.elim
    | o ys => obtain rfl : ys = xs := hl; obtain ⟨p, vs, rfl, h1, _, _, _, h5⟩ := h; exact .lst (sql h1) (dpa_same s _ (DqAll.dp _ h5))
    | l ys => obtain rfl : ys = xs := hl; obtain ⟨p, vs, rfl, h1, _, h5⟩ := h; exact .lst (sql h1) (dpa_same s _ (DqAll.dp _ h5))
    | v x => exact hl.elim
    | c x => exact hl.elim
def asD : Rk → Option PyData
  | .d x => some x
  | .o xs => some (.list xs)
  | .l xs => some (.list xs)
  | .v _ => none
  | .c xs => some (.tuple xs)
theorem rel_asD {Hs : Hp} {F : AP} {H B : Hp} {v : V} {r : Rk} {d : PyData} (s : Same B H) (h : RelR K Hs F H B v r) (hr : asD r = some d) : Dp K H v d := by
  cases r with
  | d x => cases hr; exact dp_same s _ (Dq.dp _ h)
  | o ys => cases hr; exact rel_dp s h (.inr ⟨ys, rfl, rfl⟩)
  | l ys => cases hr; exact rel_dp s h (.inr ⟨ys, rfl, rfl⟩)
  | v x => cases hr
  | c ys => cases hr; obtain ⟨p, vs, rfl, h1, h2, rfl⟩ := h; exact .tup (h1 H) (DqAll.dp _ (dqa_sc h2))
theorem opP_eqD {a b : Rk} {d e : PyData} (ha : asD a = some d) (hb : asD b = some e) (h1 : SeqAt.shaped d = true) (h2 : SeqAt.shaped e = true) (hk : k (.d (.bool (PyData.eqv d e))) m) : OpP R K E XP ρ m (rEqD K) a b k :=
  opP_sc (v := .bl (PyData.eqv d e)) rfl (fun s ra rb Q q => ⟨d, e, rel_asD s ra ha, rel_asD s rb hb, h1, h2, q⟩) hk
theorem opP_neD {a b : Rk} {d e : PyData} (ha : asD a = some d) (hb : asD b = some e) (h1 : SeqAt.shaped d = true) (h2 : SeqAt.shaped e = true) (hk : k (.d (.bool (!PyData.eqv d e))) m) : OpP R K E XP ρ m (rNeD K) a b k :=
  opP_sc (v := .bl (!PyData.eqv d e)) rfl (fun s ra rb Q q => ⟨d, e, rel_asD s ra ha, rel_asD s rb hb, h1, h2, q⟩) hk
theorem opP_inD {a b : Rk} {d : PyData} {ds : List PyData} (ha : asD a = some d) (hb : asD b = some (.list ds)) (h1 : SeqAt.shaped d = true) (h2 : SeqAt.shaped (.list ds) = true) (hk : k (.d (.bool (ds.any fun z => PyData.eqv z d))) m) : OpP R K E XP ρ m (rInD K) a b k :=
  opP_sc (v := .bl _) rfl (fun s ra rb Q q => ⟨d, ds, rel_asD s ra ha, rel_asD s rb hb, h1, h2, q⟩) hk
theorem opP_notInD {a b : Rk} {d : PyData} {ds : List PyData} (ha : asD a = some d) (hb : asD b = some (.list ds)) (h1 : SeqAt.shaped d = true) (h2 : SeqAt.shaped (.list ds) = true) (hk : k (.d (.bool (!ds.any fun z => PyData.eqv z d))) m) : OpP R K E XP ρ m (rNotInD K) a b k :=
  opP_sc (v := .bl _) rfl (fun s ra rb Q q => ⟨d, ds, rel_asD s ra ha, rel_asD s rb hb, h1, h2, q⟩) hk
theorem opP_isN {a : Rk} {d : PyData} (ha : asD a = some d) (hk : k (.d (.bool (isNoneD d))) m) : OpP R K E XP ρ m rIsN a (.d .none) k :=
  opP_sc (v := .bl (isNoneD d)) rfl (fun s ra rb Q q => by
    refine ⟨dq_non rb, ?_⟩
    rename_i Hs F H B x y
    have : decide (x = .non) = isNoneD d := by
      have h := rel_asD s ra ha
      cases h <;> rfl
    rw [this]; exact q) hk
theorem opP_notN {a : Rk} {d : PyData} (ha : asD a = some d) (hk : k (.d (.bool (!isNoneD d))) m) : OpP R K E XP ρ m rNotN a (.d .none) k :=
  opP_sc (v := .bl (!isNoneD d)) rfl (fun s ra rb Q q => by
    refine ⟨dq_non rb, ?_⟩
    rename_i Hs F H B x y
    have : decide (x = .non) = isNoneD d := by
      have h := rel_asD s ra ha
      cases h <;> rfl
    rw [this]; exact q) hk
theorem opP_addS {i j : Str} (hl : i.length + j.length ≤ sizeLine) (hk : k (.d (.str (i ++ j))) m) : OpP R K E XP ρ m rAddS (.d (.str i)) (.d (.str j)) k :=
  opP_sc (v := .str (i ++ j)) rfl (fun _ ra rb Q q => ⟨i, j, dq_str ra, dq_str rb, hl, q⟩) hk
theorem opP_ltS {i j : Str} (hk : k (.d (.bool (decide (i.cps.toList < j.cps.toList)))) m) : OpP R K E XP ρ m rLtS (.d (.str i)) (.d (.str j)) k :=
  opP_sc (v := .bl _) rfl (fun _ ra rb Q q => ⟨i, j, dq_str ra, dq_str rb, q⟩) hk
theorem opP_inSign {c : Nat} {z : Str} (hk : k (.d (.bool (decide (c ∈ z.cps.toList)))) m) : OpP R K E XP ρ m rInS (.d (.str ⟨#[c]⟩)) (.d (.str z)) k :=
  opP_sc (v := .bl _) rfl (fun _ ra rb Q q => ⟨c, z, dq_str ra, dq_str rb, q⟩) hk
theorem dqa_atI {K : PySem.W.Frag} {H : Hp} {vs : List V} {ds : List PyData} {i : Int} {d : PyData} (h : DqAll K H vs ds) (e : atI ds i = some d) : ∃ v, atI vs i = some v ∧ Dq K H v d := by
  unfold atI at e ⊢
  rw [dqa_len h]
  cases hi : ixN ds.length i with
  | none => rw [hi] at e; cases e
  | some j => rw [hi] at e; exact dqa_at h e
theorem opP_ixT {ds : List PyData} {i : Int} {d : PyData} (h : atI ds i = some d) (hk : k (.d d) m) : OpP R K E XP ρ m (rIxT K) (.d (.tuple ds)) (.d (.int i)) k := by with_unfolding_all exact (fun D ra rb Q q => by
  obtain ⟨p, vs, rfl, h1, h2⟩ := dq_tup ra
  cases dq_int rb
  obtain ⟨v, hv, hd⟩ := dqa_atI h2 h
  exact ⟨p, vs, i, v, rfl, rfl, sqt_same D.st.s h1, hv, q v _ m _ _ _ hk D (.refl D.st.s) hd⟩)
theorem rel_lst {Hs : Hp} {F : AP} {H B : Hp} {v : V} {r : Rk} {xs : List PyData} (s : Same B H) (h : RelR K Hs F H B v r) (hr : LR r xs) : ∃ p vs, v = .ref p ∧ H p = some (.lst vs) ∧ DqAll K B vs xs := by
  cases r with
  | d x =>
    cases x with
    | list ys => obtain rfl : ys = xs := hr; obtain ⟨p, vs, rfl, h1, h2⟩ := dq_lst h; exact ⟨p, vs, rfl, s _ _ h1, h2⟩
    | _ => exact hr.elim
  | o ys => obtain rfl : ys = xs := hr; obtain ⟨p, vs, rfl, h1, _, _, _, h5⟩ := h; exact ⟨p, vs, rfl, h1, h5⟩
  | l ys => obtain rfl : ys = xs := hr; obtain ⟨p, vs, rfl, h1, _, h5⟩ := h; exact ⟨p, vs, rfl, h1, h5⟩
  | v x => exact hr.elim
  | c x => exact hr.elim
theorem opP_ixL {a : Rk} {ds : List PyData} {i : Int} {d : PyData} (ha : LR a ds) (h : atI ds i = some d) (hk : k (.d d) m) : OpP R K E XP ρ m (rIxL K) a (.d (.int i)) k := by with_unfolding_all exact (fun D ra rb Q q => by
  obtain ⟨p, vs, rfl, h1, h2⟩ := rel_lst D.st.s ra ha
  cases dq_int rb
  obtain ⟨v, hv, hd⟩ := dqa_atI h2 h
  exact ⟨p, vs, i, v, rfl, rfl, sql h1, hv, q v _ m _ _ _ hk D (.refl D.st.s) hd⟩)
theorem opP_ixS {z : Str} {i : Int} {c : Nat} (hl : z.length ≤ sizeLine) (h : atI z.cps.toList i = some c) (hk : k (.d (.str ⟨#[c]⟩)) m) : OpP R K E XP ρ m rIxS (.d (.str z)) (.d (.int i)) k :=
  opP_sc (v := .str ⟨#[c]⟩) rfl (fun _ ra rb Q q => ⟨z, i, c, dq_str ra, dq_int rb, hl, h, q⟩) hk
/-- a new thing of data -/
theorem newD {F0 F : AP} {H0 B0 H B : Hp} {σ : L2.St} (D : DS R K E XP F0 H0 B0 F H B σ ρ m) {p : Addr} {vs : List V} {ds : List PyData} (hp : H p = none) (hd : DqAll K B vs ds) {Q : VK} (hk : k (.d (.tuple ds)) m)
    (q : ∀ v c m' F' H' B', k c m' → DS R K E XP F0 H0 B0 F' H' B' σ ρ m' → Stq F H B F' H' B' → RelR K H F' H' B' v c → Q v H') : Q (.ref p) (upd H p (.tup vs)) :=
  q _ _ m _ _ _ hk (D.newD hp) (.newD D.st.s hp) (.tup upd_same (dqa_same (same_upd (b_none D.st.s hp)) _ hd))
theorem newL {F0 F : AP} {H0 B0 H B : Hp} {σ : L2.St} (D : DS R K E XP F0 H0 B0 F H B σ ρ m) {p : Addr} {vs : List V} {ds : List PyData} (hp : H p = none) (hd : DqAll K B vs ds) {Q : VK} (hk : k (.o ds) m)
    (q : ∀ v c m' F' H' B', k c m' → DS R K E XP F0 H0 B0 F' H' B' σ ρ m' → Stq F H B F' H' B' → RelR K H F' H' B' v c → Q v H') : Q (.ref p) (upd H p (.lst vs)) :=
  q _ _ m _ _ _ hk (D.newO hp) (.newO D.st.s hp) ⟨p, vs, rfl, upd_same, b_none D.st.s hp, D.nF hp, hp, hd⟩
theorem opP_catT {xs ys : List PyData} (hl : xs.length + ys.length ≤ 90000) (hk : k (.d (.tuple (xs ++ ys))) m) : OpP R K E XP ρ m (rCatA K) (.d (.tuple xs)) (.d (.tuple ys)) k := by with_unfolding_all exact (fun D ra rb Q q => by
  obtain ⟨p, vs, rfl, h1, h2⟩ := dq_tup ra
  obtain ⟨p', ws, rfl, h3, h4⟩ := dq_tup rb
  have l1 := dqa_len h2
  have l2 := dqa_len h4
  refine ⟨p, p', vs, ws, rfl, rfl, sqt_same D.st.s h1, sqt_same D.st.s h3, sz (by omega), fun e => ?_, fun _ e => ?_, fun _ _ p hp => newD D hp (dqa_app h2 h4) hk q⟩
  · have : xs = [] := by rw [e] at l1; exact List.length_eq_zero_iff.mp l1.symm
    rw [this] at hk
    exact q _ _ m _ _ _ hk D (.refl D.st.s) rb
  · have : ys = [] := by rw [e] at l2; exact List.length_eq_zero_iff.mp l2.symm
    rw [this, List.append_nil] at hk
    exact q _ _ m _ _ _ hk D (.refl D.st.s) ra)
theorem opP_cat {a b : Rk} {xs ys : List PyData} (ha : LR a xs) (hb : LR b ys) (hl : xs.length + ys.length ≤ 90000) (hk : k (.o (xs ++ ys)) m) : OpP R K E XP ρ m rCat a b k := by with_unfolding_all exact (fun D ra rb Q q => by
  obtain ⟨p, vs, rfl, h1, h2⟩ := rel_lst D.st.s ra ha
  obtain ⟨p', ws, rfl, h3, h4⟩ := rel_lst D.st.s rb hb
  have l1 := dqa_len h2
  have l2 := dqa_len h4
  exact ⟨p, p', vs, ws, rfl, rfl, h1, h3, sz (by omega), fun p hp => newL D hp (dqa_app h2 h4) hk q⟩)
/-! displays -/
def DL : List Rk → Option (List PyData)
  | [] => some []
  | .d x :: rs => (DL rs).map (x :: ·)
  | _ :: _ => none
theorem rel_all {Hs : Hp} {F : AP} {H B : Hp} : ∀ {vs : List V} {rs : List Rk} {ds : List PyData}, RelA K Hs F H B vs rs → DL rs = some ds → DqAll K B vs ds
  | [], [], _, _, e => by cases e; exact .nil
  | v :: vs, r :: rs, ds, h, e => by
    cases r with
    | d x =>
      unfold DL at e
      cases hr : DL rs with
      | none => rw [hr] at e; cases e
      | some es => rw [hr] at e; cases e; exact .cons h.1 (rel_all h.2 hr)
    | o _ => cases e
    | l _ => cases e
    | v _ => cases e
    | c _ => cases e
  | [], _ :: _, _, h, _ => h.elim
  | _ :: _, [], _, h, _ => h.elim
theorem we_tup {tr : TA} (h : WA R K E XP ρ m tr fun rs m1 => ∃ ds, DL rs = some ds ∧ ds.length ≤ 90000 ∧ k (.d (.tuple ds)) m1) : WE R K E XP ρ m (tTup tr) k := by with_unfolding_all exact (fun D Q q =>
  h D _ fun vs rs m1 F1 H1 B1 ⟨ds, e, hl, k1⟩ D1 q1 r1 => by
    have hd := rel_all r1 e
    exact ⟨sz (by rw [dqa_len hd]; omega), fun p hp => newD D1 hp hd k1 fun v c m' F' H' B' k3 D3 q3 r3 => q v c m' F' H' B' k3 D3 (q1.trans q3) (r3.base fun x hx => q1.e x hx)⟩)
theorem we_lst {tr : TA} (h : WA R K E XP ρ m tr fun rs m1 => ∃ ds, DL rs = some ds ∧ ds.length ≤ 90000 ∧ k (.o ds) m1) : WE R K E XP ρ m (tLst tr) k := by with_unfolding_all exact (fun D Q q =>
  h D _ fun vs rs m1 F1 H1 B1 ⟨ds, e, hl, k1⟩ D1 q1 r1 => by
    have hd := rel_all r1 e
    exact ⟨sz (by rw [dqa_len hd]; omega), fun p hp => newL D1 hp hd k1 fun v c m' F' H' B' k3 D3 q3 r3 => q v c m' F' H' B' k3 D3 (q1.trans q3) (r3.base fun x hx => q1.e x hx)⟩)
/-! calls of built-ins -/
theorem cbP_sc {r : List V → Hp → VK → Prop} {rs : List Rk} {v : V} (hv : isSc v = true) (h : ∀ {Hs F H B vs}, Same B H → RelA K Hs F H B vs rs → ∀ Q : VK, Q v H → r vs H Q) (hk : k (.d (sc v)) m) : CbP R K E XP ρ m r rs k := by with_unfolding_all exact (fun D ra Q q =>
  h D.st.s ra Q (q _ _ m _ _ _ hk D (.refl D.st.s) (dq_sc hv)))
theorem relA1 {Hs : Hp} {F : AP} {H B : Hp} {vs : List V} {r : Rk} (h : RelA K Hs F H B vs [r]) : ∃ v, vs = [v] ∧ RelR K Hs F H B v r := by
  match vs, h with
  | [v], h => exact ⟨v, rfl, h.1⟩
theorem relA2 {Hs : Hp} {F : AP} {H B : Hp} {vs : List V} {r s : Rk} (h : RelA K Hs F H B vs [r, s]) : ∃ v w, vs = [v, w] ∧ RelR K Hs F H B v r ∧ RelR K Hs F H B w s := by
  match vs, h with
  | [v, w], h => exact ⟨v, w, rfl, h.1, h.2.1⟩
theorem cbP_lenL {a : Rk} {ds : List PyData} (ha : LR a ds) (hk : k (.d (.int (ds.length : Int))) m) : CbP R K E XP ρ m (rLen K) [a] k :=
  cbP_sc (v := .int (ds.length : Int)) rfl (fun s ra Q q => by
    obtain ⟨v, rfl, r1⟩ := relA1 ra
    obtain ⟨p, vs, rfl, h1, h2⟩ := rel_lst s r1 ha
    exact ⟨p, vs, rfl, .inl (sql h1), by rw [dqa_len h2]; exact q⟩) hk
theorem cbP_lenT {ds : List PyData} (hk : k (.d (.int (ds.length : Int))) m) : CbP R K E XP ρ m (rLen K) [.d (.tuple ds)] k :=
  cbP_sc (v := .int (ds.length : Int)) rfl (fun s ra Q q => by
    obtain ⟨v, rfl, r1⟩ := relA1 ra
    obtain ⟨p, vs, rfl, h1, h2⟩ := dq_tup r1
    exact ⟨p, vs, rfl, .inr (sqt_same s h1), by rw [dqa_len h2]; exact q⟩) hk
theorem cbP_lenS {z : Str} (hl : z.length ≤ sizeLine) (hk : k (.d (.int (z.length : Int))) m) : CbP R K E XP ρ m rLenS [.d (.str z)] k :=
  cbP_sc (v := .int (z.length : Int)) rfl (fun s ra Q q => by
    obtain ⟨v, rfl, r1⟩ := relA1 ra
    cases dq_str r1
    exact ⟨z, rfl, hl, q⟩) hk
theorem cbP_isi {a : Rk} {d : PyData} {t : String} (ha : asD a = some d) (ht : t ∈ (["bool", "int", "str", "tuple", "list"] : List String)) (hk : k (.d (.bool (isKD (kindD d) t))) m) : CbP R K E XP ρ m (rIsi K) [a, .v (.ty t)] k :=
  cbP_sc (v := .bl (isKD (kindD d) t)) rfl (fun s ra Q q => by
    obtain ⟨v, w, rfl, r1, r2⟩ := relA2 ra
    cases (show w = .ty t from r2)
    have h := rel_asD s r1 ha
    have hk' := kindD_dp h
    have ht' := dp_tyxD h
    exact ⟨v, .ty t, .type (kindD d), .type t, _, rfl, .ty _, ht', kit_ty (kitKD _ hk' _ ht), q⟩) hk
theorem cbP_int {i : Int} (hk : k (.d (.int i)) m) : CbP R K E XP ρ m rInt1 [.d (.int i)] k :=
  cbP_sc (v := .int i) rfl (fun s ra Q q => by
    obtain ⟨v, rfl, r1⟩ := relA1 ra
    exact .inl ⟨i, by rw [dq_int r1], q⟩) hk
theorem cbP_intB {b : Bool} (hk : k (.d (.int (if b then 1 else 0))) m) : CbP R K E XP ρ m rInt1 [.d (.bool b)] k :=
  cbP_sc (v := .int (if b then 1 else 0)) rfl (fun s ra Q q => by
    obtain ⟨v, rfl, r1⟩ := relA1 ra
    exact .inr ⟨b, by rw [dq_bl r1], q⟩) hk
theorem cbP_strI {i : Int} (hl : i.natAbs.log2 < 1920) (hk : k (.d (.str (toString i))) m) : CbP R K E XP ρ m rStrI [.d (.int i)] k :=
  cbP_sc (v := .str (toString i)) rfl (fun s ra Q q => by
    obtain ⟨v, rfl, r1⟩ := relA1 ra
    exact ⟨i, by rw [dq_int r1], hl, q⟩) hk
theorem cbP_listL {a : Rk} {ds : List PyData} (ha : LR a ds) (hk : k (.o ds) m) : CbP R K E XP ρ m (rLst K) [a] k := by with_unfolding_all exact (fun D ra Q q => by
  obtain ⟨v, rfl, r1⟩ := relA1 ra
  obtain ⟨p, vs, rfl, h1, h2⟩ := rel_lst D.st.s r1 ha
  exact ⟨p, vs, rfl, .inl (sql h1), fun l hl => newL D hl h2 hk q⟩)
theorem cbP_listT {ds : List PyData} (hk : k (.o ds) m) : CbP R K E XP ρ m (rLst K) [.d (.tuple ds)] k := by with_unfolding_all exact (fun D ra Q q => by
  obtain ⟨v, rfl, r1⟩ := relA1 ra
  obtain ⟨p, vs, rfl, h1, h2⟩ := dq_tup r1
  exact ⟨p, vs, rfl, .inr (sqt_same D.st.s h1), fun l hl => newL D hl h2 hk q⟩)
theorem cbP_tupL {a : Rk} {ds : List PyData} (ha : LR a ds) (hk : k (.d (.tuple ds)) m) : CbP R K E XP ρ m (rTup K) [a] k := by with_unfolding_all exact (fun D ra Q q => by
  obtain ⟨v, rfl, r1⟩ := relA1 ra
  obtain ⟨p, vs, rfl, h1, h2⟩ := rel_lst D.st.s r1 ha
  exact ⟨p, vs, rfl, .inl ⟨sql h1, fun l hl => newD D hl h2 hk q⟩⟩)
theorem cbP_tupT {ds : List PyData} (hk : k (.d (.tuple ds)) m) : CbP R K E XP ρ m (rTup K) [.d (.tuple ds)] k := by with_unfolding_all exact (fun D ra Q q => by
  obtain ⟨v, rfl, r1⟩ := relA1 ra
  have r1' := r1
  obtain ⟨p, vs, rfl, h1, h2⟩ := dq_tup r1
  exact ⟨p, vs, rfl, .inr ⟨sqt_same D.st.s h1, q _ _ m _ _ _ hk D (.refl D.st.s) r1'⟩⟩)
/-! slices -/
@[irreducible] def WO (R : MR M) (K : PySem.W.Frag) (E : XK) (XP : Addr → M → Prop) (ρ : List Sl) (m : M) (to : TO) (k : Option Int → M → Prop) : Prop := ∀ {F0 H0 B0 F H B σ}, DS R K E XP F0 H0 B0 F H B σ ρ m → ∀ Q : Option Int → Hp → Prop, (∀ b m' F' H' B', k b m' → DS R K E XP F0 H0 B0 F' H' B' σ ρ m' → Stq F H B F' H' B' → Q b H') → to σ H Q
theorem wo_none {k : Option Int → M → Prop} (hk : k none m) : WO R K E XP ρ m tNoPart k := by with_unfolding_all exact (fun D Q q => q none m _ _ _ hk D (.refl D.st.s))
theorem wo_part {k : Option Int → M → Prop} (h : WE R K E XP ρ m te fun r m1 => ∃ i, r = .d (.int i) ∧ k (some i) m1) : WO R K E XP ρ m (tPart te) k := by with_unfolding_all exact (fun D Q q =>
  h D _ fun v r m1 F1 H1 B1 ⟨i, e, k1⟩ D1 q1 r1 => by subst e; exact ⟨i, dq_int r1, q _ m1 _ _ _ k1 D1 q1⟩)
@[irreducible] def SlP (R : MR M) (K : PySem.W.Frag) (E : XK) (XP : Addr → M → Prop) (ρ : List Sl) (m : M) (r : V → Option Int → Option Int → Hp → VK → Prop) (a : Rk) (lo hi : Option Int) (k : Rk → M → Prop) : Prop := ∀ {F0 H0 B0 F H B σ Hs x}, DS R K E XP F0 H0 B0 F H B σ ρ m → RelR K Hs F H B x a → ∀ Q : VK, (∀ v c m' F' H' B', k c m' → DS R K E XP F0 H0 B0 F' H' B' σ ρ m' → Stq F H B F' H' B' → RelR K H F' H' B' v c → Q v H') → r x lo hi H Q
theorem we_sl {r : V → Option Int → Option Int → Hp → VK → Prop} {tl th : TO} (h : WE R K E XP ρ m te fun a m1 => WO R K E XP ρ m1 tl fun lo m2 => WO R K E XP ρ m2 th fun hi m3 => SlP R K E XP ρ m3 r a lo hi k) : WE R K E XP ρ m (tSl r te tl th) k := by with_unfolding_all exact (fun D Q q =>
  h D _ fun v a m1 F1 H1 B1 k1 D1 q1 r1 => k1 D1 _ fun lo m2 F2 H2 B2 k2 D2 q2 => k2 D2 _ fun hi m3 F3 H3 B3 k3 D3 q3 => k3 D3 ((r1.step q2).step q3) _ fun v c m' F' H' B' k4 D4 q4 r4 => q v c m' F' H' B' k4 D4 (((q1.trans q2).trans q3).trans q4) (r4.base fun x hx => q3.e x (q2.e x (q1.e x hx))))
/-- a cut of data -/
def cutD (xs : List PyData) (lo hi : Option Int) : List PyData := (xs.drop (HT.sIx xs.length 0 lo)).take (HT.sIx xs.length xs.length hi - HT.sIx xs.length 0 lo)
theorem cutD_all {B : Hp} {vs : List V} {xs : List PyData} (h : DqAll K B vs xs) (lo hi : Option Int) : DqAll K B (cutV vs lo hi) (cutD xs lo hi) := by
  unfold cutV cutD
  rw [dqa_len h]
  exact dqa_take _ (dqa_drop _ h)
theorem slP_L {a : Rk} {xs : List PyData} {lo hi : Option Int} (ha : LR a xs) (hk : k (.o (cutD xs lo hi)) m) : SlP R K E XP ρ m (rSlL K) a lo hi k := by with_unfolding_all exact (fun D ra Q q => by
  obtain ⟨p, vs, rfl, h1, h2⟩ := rel_lst D.st.s ra ha
  exact ⟨p, vs, rfl, sql h1, fun p hp => newL D hp (cutD_all h2 lo hi) hk q⟩)
theorem slP_S {z : Str} {lo hi : Option Int} (hl : z.length ≤ sizeLine) (hk : k (.d (.str (cutS z lo hi))) m) : SlP R K E XP ρ m rSlS (.d (.str z)) lo hi k := by with_unfolding_all exact (fun D ra Q q => by
  cases dq_str ra
  exact ⟨z, rfl, hl, q _ _ m _ _ _ hk D (.refl D.st.s) (.str _)⟩)
theorem slP_T {xs : List PyData} {lo hi : Option Int} (hk : k (.d (.tuple (cutD xs lo hi))) m) : SlP R K E XP ρ m (rSlA K) (.d (.tuple xs)) lo hi k := by with_unfolding_all exact (fun D ra Q q => by
  have ra' := ra
  obtain ⟨p, vs, rfl, h1, h2⟩ := dq_tup ra
  have hl := dqa_len h2
  refine ⟨p, vs, rfl, sqt_same D.st.s h1, fun e => ?_, fun _ p hp => newD D hp (cutD_all h2 lo hi) hk q⟩
  rw [hl] at e
  have : cutD xs lo hi = xs := by
    unfold cutD
    rw [e.1, e.2, List.drop_zero, Nat.sub_zero, List.take_length]
  rw [this] at hk
  exact q _ _ m _ _ _ hk D (.refl D.st.s) ra')
end
/-! ## what is new becomes data -/
def DLo : List Rk → Option (List PyData)
  | [] => some []
  | .d x :: rs => (DLo rs).map (x :: ·)
  | .o xs :: rs => (DLo rs).map (.list xs :: ·)
  | _ :: _ => none
section
variable {M : Type} {R : MR M} {K : PySem.W.Frag} {E : XK} {XP : Addr → M → Prop} {ρ : List Sl} {m : M} {F0 F : AP} {H0 B0 H B Hs : Hp} {σ : L2.St}
/-- no slot's own list is new since Hs -/
def OwnB (ρ : List Sl) (σ : L2.St) (Hs : Hp) : Prop := ∀ (i : Nat) (xs : List PyData) (p : Addr), ρ[i]? = some (.o xs) → σ[i]? = some (some (.ref p)) → Hs p ≠ none
theorem DS.own (D : DS R K E XP F0 H0 B0 F H B σ ρ m) : OwnB ρ σ H := fun i xs p h1 h2 => by
  obtain ⟨w, h3, q, vs, rfl, h4, _⟩ := D.s i _ h1
  rw [h2] at h3
  cases h3
  rw [h4]; simp
theorem OwnB.mono {Hs' : Hp} (h : OwnB ρ σ Hs) (e : ∀ x, Hs x ≠ none → Hs' x ≠ none) : OwnB ρ σ Hs' := fun i xs p h1 h2 => e p (h i xs p h1 h2)
/-- a list that is no slot's becomes data -/
theorem DS.freeze (D : DS R K E XP F0 H0 B0 F H B σ ρ m) {p : Addr} {vs : List V} (e : H p = some (.lst vs)) (hb : B p = none) (hF : ¬ F p) (h0 : H0 p = none) (hn : ∀ (i : Nat) (xs : List PyData), ρ[i]? = some (.o xs) → σ[i]? ≠ some (some (.ref p))) :
    DS R K E XP F0 H0 B0 F H (upd B p (.lst vs)) σ ρ m where
  l := D.l
  st := { b := D.st.b.trans (same_upd hb)
          s := fun x o h => by
            by_cases hx : x = p
            · subst hx; rw [upd_same] at h; rw [← h]; exact e
            · rw [upd_ne hx] at h; exact D.st.s x o h
          f := fun x h1 h2 => by rw [upd_ne (fun z => h1 (by rw [z]; exact h0))]; exact D.st.f x h1 h2
          k := D.st.k
          n := D.st.n
          e := D.st.e }
  r := R.frame D.r (fun _ _ => rfl) (same_upd hb) fun x hx => by rw [upd_ne (fun z => hF (by rw [← z]; exact hx))]; exact (R.dom D.r hx).2
  s := fun i t ht => by
    obtain ⟨w, h1, h2⟩ := D.s i t ht
    refine ⟨w, h1, ?_⟩
    cases t with
    | u => exact True.intro
    | d x => obtain ⟨v, h3, h4⟩ := h2; exact ⟨v, h3, dq_same (same_upd hb) x h4⟩
    | o xs =>
      obtain ⟨q, us, rfl, h3, h4, h5, h6, h7⟩ := h2
      refine ⟨q, us, rfl, h3, ?_, h5, h6, dqa_same (same_upd hb) _ h7⟩
      rw [upd_ne (fun z => hn i xs ht (by rw [h1, z]))]
      exact h4
    | v x => exact h2
    | l xs =>
      obtain ⟨q, us, rfl, h3, h5, h6, h7⟩ := h2
      exact ⟨q, us, rfl, h3, h5, h6, dqa_same (same_upd hb) _ h7⟩
  oo := D.oo
  x := D.x
theorem toD (D : DS R K E XP F0 H0 B0 F H B σ ρ m) (ho : OwnB ρ σ Hs) (hs : ∀ x, H0 x ≠ none → Hs x ≠ none) : ∀ {vs : List V} {rs : List Rk} {ds : List PyData}, RelA K Hs F H B vs rs → DLo rs = some ds →
    ∃ B', Same B B' ∧ DS R K E XP F0 H0 B0 F H B' σ ρ m ∧ (∀ x, Hs x ≠ none → B x = none → B' x = none) ∧ DqAll K B' vs ds
  | [], [], _, _, e => by cases e; exact ⟨B, Same.refl _, D, fun _ _ h => h, .nil⟩
  | v :: vs, r :: rs, ds, h, e => by
    obtain ⟨h1, h2⟩ := h
    cases r with
    | d x =>
      unfold DLo at e
      cases hr : DLo rs with
      | none => rw [hr] at e; cases e
      | some es =>
        rw [hr] at e; cases e
        obtain ⟨B', b1, D', f1, a1⟩ := toD D ho hs h2 hr
        exact ⟨B', b1, D', f1, .cons (dq_same b1 _ h1) a1⟩
    | o xs =>
      unfold DLo at e
      cases hr : DLo rs with
      | none => rw [hr] at e; cases e
      | some es =>
        rw [hr] at e; cases e
        obtain ⟨B', b1, D', f1, a1⟩ := toD D ho hs h2 hr
        obtain ⟨p, us, rfl, g1, g2, g3, g4, g5⟩ := h1
        cases hb : B' p with
        | some o =>
          have : o = .lst us := by have := D'.st.s _ _ hb; rw [g1] at this; exact (Option.some.inj this).symm
          subst this
          exact ⟨B', b1, D', f1, .cons (.lst hb (dqa_same b1 _ g5)) a1⟩
        | none =>
          have h0 : H0 p = none := Classical.byContradiction fun z => hs p z g4
          refine ⟨upd B' p (.lst us), b1.trans (same_upd hb), D'.freeze g1 hb g3 h0 (fun i ys z w => ho i ys p z w g4), fun x hx hx2 => ?_, .cons (.lst upd_same (dqa_same (b1.trans (same_upd hb)) _ g5)) (dqa_same (same_upd hb) _ a1)⟩
          rw [upd_ne (fun z => hx (by rw [z]; exact g4))]
          exact f1 x hx hx2
    | l _ => cases e
    | v _ => cases e
    | c _ => cases e
  | [], _ :: _, _, h, _ => h.elim
  | _ :: _, [], _, h, _ => h.elim
end
section
variable {M : Type} {R : MR M} {K : PySem.W.Frag} {E : XK} {XP : Addr → M → Prop} {ρ : List Sl} {m : M} {k : Rk → M → Prop} {ta tb tc te : TE} {tr : TA}
/-- data from what was worked out -/
theorem wa_data {k' : List PyData → M → Prop} (h : WA R K E XP ρ m tr fun rs m1 => ∃ ds, DLo rs = some ds ∧ k' ds m1) {F0 H0 B0 F H B σ} (D : DS R K E XP F0 H0 B0 F H B σ ρ m) (Q : List V → Hp → Prop)
    (q : ∀ vs ds m' F' H' B', k' ds m' → DS R K E XP F0 H0 B0 F' H' B' σ ρ m' → Stq F H B F' H' B' → DqAll K B' vs ds → Q vs H') : tr σ H Q :=
  by with_unfolding_all exact (h D _ fun vs rs m1 F1 H1 B1 ⟨ds, e, k1⟩ D1 q1 r1 => by
    obtain ⟨B', b1, D', f1, a1⟩ := toD D1 D.own (fun x hx => D.st.e x hx) r1 e
    refine q vs ds m1 F1 H1 B' k1 D' ⟨q1.b.trans b1, D'.st.s, fun x h1 h2 => f1 x h1 (q1.f x h1 h2), q1.k, q1.n, q1.e⟩ a1)
theorem we_tupo (h : WA R K E XP ρ m tr fun rs m1 => ∃ ds, DLo rs = some ds ∧ ds.length ≤ 90000 ∧ k (.d (.tuple ds)) m1) : WE R K E XP ρ m (tTup tr) k := by with_unfolding_all exact (fun D Q q =>
  wa_data h D _ fun vs ds m1 F1 H1 B1 ⟨hl, k1⟩ D1 q1 hd =>
    ⟨sz (by rw [dqa_len hd]; omega), fun p hp => newD D1 hp hd k1 fun v c m' F' H' B' k3 D3 q3 r3 => q v c m' F' H' B' k3 D3 (q1.trans q3) (r3.base fun x hx => q1.e x hx)⟩)
theorem we_lsto (h : WA R K E XP ρ m tr fun rs m1 => ∃ ds, DLo rs = some ds ∧ ds.length ≤ 90000 ∧ k (.o ds) m1) : WE R K E XP ρ m (tLst tr) k := by with_unfolding_all exact (fun D Q q =>
  wa_data h D _ fun vs ds m1 F1 H1 B1 ⟨hl, k1⟩ D1 q1 hd =>
    ⟨sz (by rw [dqa_len hd]; omega), fun p hp => newL D1 hp hd k1 fun v c m' F' H' B' k3 D3 q3 r3 => q v c m' F' H' B' k3 D3 (q1.trans q3) (r3.base fun x hx => q1.e x hx)⟩)
end
/-! ## defs of data -/
def RelP (K : PySem.W.Frag) (H0 H B : Hp) (v : V) : Rk → Prop
  | .d x => Dq K B v x
  | .o xs => ∃ p vs, v = .ref p ∧ H p = some (.lst vs) ∧ B p = none ∧ H0 p = none ∧ DqAll K B vs xs
  | _ => False
/-- a def that gets data and gives data, or a new list of data -/
def spP (K : PySem.W.Frag) (pre : List PyData → Prop) (post : List PyData → Rk → Prop) : Sp := fun vs H Q _ => ∃ ds B, DqAll K B vs ds ∧ Same B H ∧ pre ds ∧
  ∀ v r H' B', post ds r → Same H H' → Same B B' → Same B' H' → (∀ x, H x ≠ none → B x = none → B' x = none) → RelP K H H' B' v r → Q v H'
section
variable {M : Type} {R : MR M} {K : PySem.W.Frag} {E : XK} {XP : Addr → M → Prop} {ρ : List Sl} {m : M} {k : Rk → M → Prop} {ta tb tc te : TE} {tr : TA}
theorem we_callP {pre : List PyData → Prop} {post : List PyData → Rk → Prop} {dvs : List V} {E' : XK} (h : WA R K E XP ρ m tr fun rs m1 => ∃ ds, DLo rs = some ds ∧ pre (ds ++ dvs.map sc) ∧ ∀ r, post (ds ++ dvs.map sc) r → k r m1) (hdv : dvs.all isSc = true := by rfl) : WE R K E XP ρ m (tCall (spP K pre post) dvs E' tr) k := by with_unfolding_all exact (fun D Q q =>
  wa_data h D _ fun vs ds m1 F1 H1 B1 ⟨hp, hk⟩ D1 q1 hd => by
    refine ⟨ds ++ dvs.map sc, B1, dqa_app hd (dqa_sc hdv), D1.st.s, hp, fun v r H' B' hr s1 b1 t1 f1 rel => ?_⟩
    have D2 := D1.pure s1 b1 t1 f1
    have q2 := q1.trans (Stq.pure (F := F1) s1 b1 t1 f1)
    refine q v r m1 F1 H' B' (hk r hr) D2 q2 ?_
    cases r with
    | d x => exact rel
    | o xs =>
      obtain ⟨p, us, rfl, g1, g2, g3, g4⟩ := rel
      exact ⟨p, us, rfl, g1, g2, D1.nF g3, Classical.byContradiction fun z => q1.e p z g3, g4⟩
    | l _ => exact rel.elim
    | v _ => exact rel.elim
    | c _ => exact rel.elim)
end
/-! ## statements -/
def slOf : Rk → Sl
  | .d x => .d x
  | .o xs => .o xs
  | .l _ => .u
  | .c _ => .u
  | .v x => .v x
/-- the same slots, some forgotten -/
def Wk : List Sl → List Sl → Prop
  | [], [] => True
  | a :: as, b :: bs => (a = b ∨ b = .u) ∧ Wk as bs
  | _, _ => False
theorem Wk.refl : ∀ ρ : List Sl, Wk ρ ρ
  | [] => True.intro
  | _ :: ρ => ⟨.inl rfl, Wk.refl ρ⟩
theorem Wk.len : ∀ {ρ ρ' : List Sl}, Wk ρ ρ' → ρ'.length = ρ.length
  | [], [], _ => rfl
  | _ :: _, _ :: _, h => by rw [List.length_cons, List.length_cons, Wk.len h.2]
  | [], _ :: _, h => h.elim
  | _ :: _, [], h => h.elim
theorem Wk.at : ∀ {ρ ρ' : List Sl} {i : Nat} {t : Sl}, Wk ρ ρ' → ρ'[i]? = some t → t = .u ∨ ρ[i]? = some t
  | [], [], i, t, _, h => by simp at h
  | a :: as, b :: bs, 0, t, w, h => by
    have e : b = t := by simpa using h
    subst e
    rcases w.1 with z | z
    · exact .inr (by rw [z]; rfl)
    · exact .inl z
  | a :: as, b :: bs, i + 1, t, w, h => by
    have h' : bs[i]? = some t := by simpa using h
    rcases Wk.at w.2 h' with z | z
    · exact .inl z
    · exact .inr (by simpa using z)
  | [], _ :: _, _, _, h, _ => h.elim
  | _ :: _, [], _, _, h, _ => h.elim
section
variable {M : Type} (R : MR M) (K : PySem.W.Frag) (E : XK) (XP : Addr → M → Prop)
@[irreducible] def WS (ρ : List Sl) (m : M) (ts : TS) (nx : List Sl → M → Prop) (rt : Rk → M → Prop) (bk ct : List Sl → M → Prop) : Prop := ∀ {F0 H0 B0 F H B σ} (D : Ends), DS R K E XP F0 H0 B0 F H B σ ρ m →
  (∀ {σ' ρ' m' F' H' B'}, nx ρ' m' → DS R K E XP F0 H0 B0 F' H' B' σ' ρ' m' → Same B B' → D.nx σ' H') →
  (∀ {v r m' F' H' B'}, rt r m' → Stq F0 H0 B0 F' H' B' → R.rel m' F' H' B' → RelR K H0 F' H' B' v r → D.rt v H') →
  (∀ {σ' ρ' m' F' H' B'}, bk ρ' m' → DS R K E XP F0 H0 B0 F' H' B' σ' ρ' m' → Same B B' → D.bk σ' H') →
  (∀ {σ' ρ' m' F' H' B'}, ct ρ' m' → DS R K E XP F0 H0 B0 F' H' B' σ' ρ' m' → Same B B' → D.ct σ' H') → ts D σ H
/-- a target that gets data -/
@[irreducible] def WG (ρ : List Sl) (m : M) (g : TG) (d : PyData) (k : List Sl → Prop) : Prop := ∀ {F0 H0 B0 F H B σ v}, DS R K E XP F0 H0 B0 F H B σ ρ m → Dq K B v d → ∀ Q : L2.St → Hp → Prop,
  (∀ σ' ρ', k ρ' → DS R K E XP F0 H0 B0 F H B σ' ρ' m → Q σ' H) → g v σ H Q
@[irreducible] def WGs (ρ : List Sl) (m : M) (g : TGs) (ds : List PyData) (k : List Sl → Prop) : Prop := ∀ {F0 H0 B0 F H B σ vs}, DS R K E XP F0 H0 B0 F H B σ ρ m → DqAll K B vs ds → ∀ Q : L2.St → Hp → Prop,
  (∀ σ' ρ', k ρ' → DS R K E XP F0 H0 B0 F H B σ' ρ' m → Q σ' H) → g vs σ H Q
end
theorem wipe_in {j : Nat} {τ : L2.St} : ∀ {vs : List Nat}, j ∈ vs → (wipe τ vs)[j]? = if j < τ.length then some none else none
  | [], h => by cases h
  | a :: vs, h => by
    show ((wipe τ vs).set a none)[j]? = _
    by_cases ha : j = a
    · subst ha
      by_cases hl : j < τ.length
      · rw [List.getElem?_set_self (by rw [wipe_length]; exact hl), if_pos hl]
      · rw [if_neg hl, List.getElem?_eq_none (by rw [List.length_set, wipe_length]; omega)]
    · rw [List.getElem?_set_ne (fun z => ha z.symm)]
      exact wipe_in ((List.mem_cons.mp h).resolve_left ha)
theorem wipe_set {i : Nat} {w : Option V} {σ : L2.St} {vs : List Nat} (h : i ∈ vs) : wipe (σ.set i w) vs = wipe σ vs := by
  refine List.ext_getElem? fun j => ?_
  by_cases hj : j ∈ vs
  · rw [wipe_in hj, wipe_in hj, List.length_set]
  · rw [wipe_out hj, wipe_out hj, List.getElem?_set_ne (fun z => hj (by rw [← z]; exact h))]
section
variable {M : Type} {R : MR M} {K : PySem.W.Frag} {E : XK} {XP : Addr → M → Prop} {ρ : List Sl} {m : M} {F0 F : AP} {H0 B0 H B Hs : Hp} {σ : L2.St}
theorem DS.wk (D : DS R K E XP F0 H0 B0 F H B σ ρ m) {ρ' : List Sl} (w : Wk ρ ρ') : DS R K E XP F0 H0 B0 F H B σ ρ' m where
  l := by rw [w.len]; exact D.l
  st := D.st
  r := D.r
  s := fun i t ht => by
    rcases w.at ht with rfl | h
    · have hi : i < σ.length := by rw [D.l, ← w.len]; exact (List.getElem?_eq_some_iff.mp ht).1
      exact ⟨_, List.getElem?_eq_getElem hi, True.intro⟩
    · exact D.s i t h
  oo := fun i j p xs ys h1 h2 => D.oo i j p xs ys ((w.at h1).resolve_left (by intro z; cases z)) ((w.at h2).resolve_left (by intro z; cases z))
  x := D.x
/-- a slot gets data or what is known of it -/
theorem DS.setW (D : DS R K E XP F0 H0 B0 F H B σ ρ m) (i : Nat) {w : Option V} {t : Sl} (hw : SlD K H0 F H B w t) (ht : ∀ xs p, t = .o xs → w = some (.ref p) → ∀ (j : Nat) (ys : List PyData), ρ[j]? = some (.o ys) → j ≠ i → σ[j]? ≠ some (some (.ref p))) :
    DS R K E XP F0 H0 B0 F H B (σ.set i w) (ρ.set i t) m where
  l := by rw [List.length_set, List.length_set]; exact D.l
  st := D.st
  r := D.r
  s := fun j u hu => by
    by_cases hj : i = j
    · subst hj
      have hl : i < ρ.length := by have := (List.getElem?_eq_some_iff.mp hu).1; rw [List.length_set] at this; exact this
      rw [List.getElem?_set_self hl] at hu
      cases hu
      exact ⟨w, List.getElem?_set_self (by rw [D.l]; exact hl), hw⟩
    · rw [List.getElem?_set_ne hj] at hu
      obtain ⟨x, h1, h2⟩ := D.s j u hu
      exact ⟨x, by rw [List.getElem?_set_ne hj]; exact h1, h2⟩
  oo := fun a b p xs ys h1 h2 h3 h4 => by
    by_cases ha : i = a
    · by_cases hb : i = b
      · rw [← ha, ← hb]
      · exfalso
        subst ha
        have hl : i < ρ.length := by have := (List.getElem?_eq_some_iff.mp h1).1; rw [List.length_set] at this; exact this
        rw [List.getElem?_set_self hl] at h1
        rw [List.getElem?_set_self (by rw [D.l]; exact hl)] at h3
        rw [List.getElem?_set_ne hb] at h2 h4
        exact ht xs p (Option.some.inj h1) (Option.some.inj h3) b ys h2 (fun z => hb z.symm) h4
    · by_cases hb : i = b
      · exfalso
        subst hb
        have hl : i < ρ.length := by have := (List.getElem?_eq_some_iff.mp h2).1; rw [List.length_set] at this; exact this
        rw [List.getElem?_set_self hl] at h2
        rw [List.getElem?_set_self (by rw [D.l]; exact hl)] at h4
        rw [List.getElem?_set_ne ha] at h1 h3
        exact ht ys p (Option.some.inj h2) (Option.some.inj h4) a xs h1 (fun z => ha z.symm) h3
      · rw [List.getElem?_set_ne ha] at h1 h3
        rw [List.getElem?_set_ne hb] at h2 h4
        exact D.oo a b p xs ys h1 h2 h3 h4
  x := D.x
theorem DS.setD (D : DS R K E XP F0 H0 B0 F H B σ ρ m) (i : Nat) {v : V} {d : PyData} (h : Dq K B v d) : DS R K E XP F0 H0 B0 F H B (σ.set i (some v)) (ρ.set i (.d d)) m :=
  D.setW i ⟨v, rfl, h⟩ fun _ _ e => by cases e
theorem DS.setR (D : DS R K E XP F0 H0 B0 F H B σ ρ m) (i : Nat) {v : V} {r : Rk} (h : RelR K Hs F H B v r) (ho : OwnB ρ σ Hs) (hs : ∀ x, H0 x ≠ none → Hs x ≠ none) : DS R K E XP F0 H0 B0 F H B (σ.set i (some v)) (ρ.set i (slOf r)) m := by
  cases r with
  | d x => exact D.setD i h
  | o xs =>
    obtain ⟨p, us, rfl, g1, g2, g3, g4, g5⟩ := h
    have h0 : H0 p = none := Classical.byContradiction fun z => hs p z g4
    refine D.setW i ⟨p, us, rfl, g1, g2, g3, h0, g5⟩ fun ys q _ hq j zs hj _ hz => ?_
    cases hq
    exact ho j zs p hj hz g4
  | l xs => exact D.setW i True.intro fun _ _ e => by cases e
  | v x => exact D.setW i (show some v = some x by rw [show v = x from h]) fun _ _ e => by cases e
  | c x => exact D.setW i True.intro fun _ _ e => by cases e
/-- a slot's own list changes -/
theorem DS.putO (D : DS R K E XP F0 H0 B0 F H B σ ρ m) {i : Nat} {p : Addr} {xs ys : List PyData} {vs : List V} (hi : ρ[i]? = some (.o xs)) (hp : σ[i]? = some (some (.ref p))) (hv : DqAll K B vs ys) : DS R K E XP F0 H0 B0 F (upd H p (.lst vs)) B σ (ρ.set i (.o ys)) m := by
  obtain ⟨w, h1, q, us, e, h2, h3, h4, h5, h6⟩ := D.s i _ hi
  rw [hp] at h1
  cases h1
  cases e
  have hl : i < ρ.length := (List.getElem?_eq_some_iff.mp hi).1
  refine ⟨by rw [List.length_set]; exact D.l, D.st.put h5 h3, R.frame D.r (fun x hx => upd_ne fun z => h4 (by rw [← z]; exact hx)) (Same.refl _) (fun x hx => (R.dom D.r hx).2), fun j t ht => ?_, fun a b r as bs k1 k2 k3 k4 => ?_, D.x⟩
  · by_cases hj : i = j
    · subst hj
      rw [List.getElem?_set_self hl] at ht
      cases ht
      exact ⟨_, hp, p, vs, rfl, upd_same, h3, h4, h5, hv⟩
    · rw [List.getElem?_set_ne hj] at ht
      obtain ⟨x, g1, g2⟩ := D.s j t ht
      refine ⟨x, g1, ?_⟩
      cases t with
      | u => exact True.intro
      | d y => exact g2
      | o zs =>
        obtain ⟨r, ws, rfl, k1, k2, k3, k4, k5⟩ := g2
        refine ⟨r, ws, rfl, ?_, k2, k3, k4, k5⟩
        rw [upd_ne (fun z => hj (by rw [z] at g1; exact D.oo i j p xs zs hi ht hp g1))]
        exact k1
      | v y => exact g2
      | l zs =>
        obtain ⟨r, ws, rfl, k1, k3, k4, k5⟩ := g2
        exact ⟨r, ws, rfl, (upd_ne fun z => k4 (by rw [z]; exact h5)).trans k1, k3, k4, k5⟩
  · have back : ∀ (c : Nat) (cs : List PyData), (ρ.set i (.o ys))[c]? = some (.o cs) → ∃ cs', ρ[c]? = some (.o cs') := fun c cs hc => by
      by_cases hci : i = c
      · subst hci; exact ⟨xs, hi⟩
      · rw [List.getElem?_set_ne hci] at hc; exact ⟨cs, hc⟩
    obtain ⟨as', k1'⟩ := back a as k1
    obtain ⟨bs', k2'⟩ := back b bs k2
    exact D.oo a b r as' bs' k1' k2' k3 k4
theorem wk_set : ∀ {i : Nat} {ρ : List Sl}, i < ρ.length → Wk ρ (ρ.set i .u)
  | i, [], h => by cases h
  | 0, a :: as, _ => ⟨.inr rfl, Wk.refl as⟩
  | i + 1, a :: as, h => ⟨.inl rfl, wk_set (by simpa using h)⟩
/-- a slot's own list becomes data -/
theorem DS.freezeS (D : DS R K E XP F0 H0 B0 F H B σ ρ m) {i : Nat} {xs : List PyData} (hi : ρ[i]? = some (.o xs)) : ∃ B', DS R K E XP F0 H0 B0 F H B' σ (ρ.set i (.d (.list xs))) m ∧ Same B B' ∧ (∀ x, H0 x ≠ none → B x = none → B' x = none) := by
  obtain ⟨w, h1, p, us, rfl, h2, h3, h4, h5, h6⟩ := D.s i _ hi
  have hl : i < ρ.length := (List.getElem?_eq_some_iff.mp hi).1
  have D1 : DS R K E XP F0 H0 B0 F H B σ (ρ.set i .u) m := D.wk (wk_set hl)
  have D2 := D1.freeze h2 h3 h4 h5 (fun j ys hj hz => by
    by_cases hji : i = j
    · subst hji; rw [List.getElem?_set_self hl] at hj; cases hj
    · rw [List.getElem?_set_ne hji] at hj
      exact hji (D.oo i j p xs ys hi hj h1 hz))
  refine ⟨upd B p (.lst us), ?_, same_upd h3, fun x hx hb => by rw [upd_ne (fun z => hx (by rw [z]; exact h5))]; exact hb⟩
  have D3 := D2.setD i (v := .ref p) (d := .list xs) (.lst upd_same (dqa_same (same_upd h3) _ h6))
  rw [List.set_set] at D3
  have e1 : σ.set i (some (.ref p)) = σ := set_self h1
  rw [e1] at D3
  exact D3
end
section
variable {M : Type} {R : MR M} {K : PySem.W.Frag} {E : XK} {XP : Addr → M → Prop} {ρ : List Sl} {m : M} {nx : List Sl → M → Prop} {rt : Rk → M → Prop} {bk ct : List Sl → M → Prop} {ta tb tc te : TE} {tr : TA} {t u : TS} {i : Nat}
theorem ws_seq (h : WS R K E XP ρ m t (fun ρ' m' => WS R K E XP ρ' m' u nx rt bk ct) rt bk ct) : WS R K E XP ρ m (tSeq t u) nx rt bk ct := by with_unfolding_all exact (fun D d n r b c =>
  h { D with nx := u D } d (fun w d' s' => w D d' (fun k e t => n k e (s'.trans t)) r (fun k e t => b k e (s'.trans t)) (fun k e t => c k e (s'.trans t))) r b c)
theorem ws_next (hk : nx ρ m) : WS R K E XP ρ m tNext nx rt bk ct := by with_unfolding_all exact (fun D d n _ _ _ => n hk d (Same.refl _))
theorem ws_brk (hk : bk ρ m) : WS R K E XP ρ m tBreak nx rt bk ct := by with_unfolding_all exact (fun D d _ _ b _ => b hk d (Same.refl _))
theorem ws_cont (hk : ct ρ m) : WS R K E XP ρ m tCont nx rt bk ct := by with_unfolding_all exact (fun D d _ _ _ c => c hk d (Same.refl _))
theorem ws_asg (h : WE R K E XP ρ m te fun r m1 => nx (ρ.set i (slOf r)) m1) : WS R K E XP ρ m (tAsg te (gName i)) nx rt bk ct := by with_unfolding_all exact (fun D d n _ _ _ =>
  h d _ fun v r m1 F1 H1 B1 k1 D1 q1 r1 => n k1 (D1.setR i r1 d.own fun x hx => d.st.e x hx) q1.b)
theorem ws_asgG {g : TG} (h : WE R K E XP ρ m te fun r m1 => ∃ x, r = .d x ∧ WG R K E XP ρ m1 g x fun ρ' => nx ρ' m1) : WS R K E XP ρ m (tAsg te g) nx rt bk ct := by with_unfolding_all exact (fun D d n _ _ _ =>
  h d _ fun v r m1 F1 H1 B1 ⟨x, e, k1⟩ D1 q1 r1 => by subst e; exact k1 D1 r1 _ fun σ' ρ' hk D2 => n hk D2 q1.b)
theorem wg_name {d : PyData} {k : List Sl → Prop} (hk : k (ρ.set i (.d d))) : WG R K E XP ρ m (gName i) d k := by with_unfolding_all exact (fun D hd Q q => q _ _ hk (D.setD i hd))
theorem wgs_nil {k : List Sl → Prop} (hk : k ρ) : WGs R K E XP ρ m gNil [] k := by with_unfolding_all exact (fun {F0 H0 B0 F H B σ vs} D hd Q q => by
  cases hd
  exact ⟨rfl, q _ _ hk D⟩)
theorem wgs_cons {g : TG} {gs : TGs} {d : PyData} {ds : List PyData} {k : List Sl → Prop} (h : WG R K E XP ρ m g d fun ρ1 => WGs R K E XP ρ1 m gs ds k) : WGs R K E XP ρ m (gCons g gs) (d :: ds) k := by with_unfolding_all exact (fun {F0 H0 B0 F H B σ vs} D hd Q q => by
  cases hd with
  | cons h1 h2 => exact ⟨_, _, rfl, h D h1 _ fun σ1 ρ1 k1 D1 => k1 D1 h2 _ fun σ2 ρ2 k2 D2 => q σ2 ρ2 k2 D2⟩)
theorem wg_tup {gs : TGs} {n : Nat} {ds : List PyData} {k : List Sl → Prop} (hn : ds.length = n) (h : WGs R K E XP ρ m gs ds k) : WG R K E XP ρ m (gTup K n gs) (.tuple ds) k := by with_unfolding_all exact (fun D hd Q q => by
  obtain ⟨p, vs, rfl, h1, h2⟩ := dq_tup hd
  exact ⟨p, vs, rfl, sqt_same D.st.s h1, by rw [dqa_len h2]; exact hn, h D h2 Q q⟩)
theorem ws_par {j : Nat} (h : WA R K E XP ρ m tr fun rs m1 => ∃ x y, DLo rs = some [x, y] ∧ nx ((ρ.set i (.d x)).set j (.d y)) m1) : WS R K E XP ρ m (tPar i j tr) nx rt bk ct := by with_unfolding_all exact (fun D d n _ _ _ =>
  wa_data (k' := fun ds m1 => ∃ x y, ds = [x, y] ∧ nx ((ρ.set i (.d x)).set j (.d y)) m1) (fun D Q q => h D Q fun vs rs m' F' H' B' ⟨x, y, e, k⟩ => q vs rs m' F' H' B' ⟨_, e, x, y, rfl, k⟩) d _ fun vs ds m1 F1 H1 B1 ⟨x, y, e, k1⟩ D1 q1 hd => by
    subst e
    cases hd with
    | cons h1 h2 =>
      cases h2 with
      | cons h2 h3 =>
        cases h3
        exact ⟨_, _, rfl, n k1 ((D1.setD i h1).setD j h2) q1.b⟩)
theorem ws_augI {f : Int → Int → Int} {a : Int} (hi : ρ[i]? = some (.d (.int a))) (h : WE R K E XP ρ m te fun r m1 => ∃ b, r = .d (.int b) ∧ nx (ρ.set i (.d (.int (f a b)))) m1) : WS R K E XP ρ m (tAug i te (ipI f)) nx rt bk ct := by with_unfolding_all exact (fun D d n _ _ _ => by
  obtain ⟨w, h1, v, rfl, h2⟩ := d.s i _ hi
  cases dq_int h2
  refine ⟨_, h1, h d _ fun v r m1 F1 H1 B1 ⟨b, e, k1⟩ D1 q1 r1 => ?_⟩
  subst e
  exact ⟨a, b, rfl, dq_int r1, n k1 (D1.setD i (.int _)) q1.b⟩)
theorem ws_drop (h : WE R K E XP ρ m te fun _ m1 => nx ρ m1) : WS R K E XP ρ m (tDrop te) nx rt bk ct := by with_unfolding_all exact (fun D d n _ _ _ => h d _ fun v r m1 F1 H1 B1 k1 D1 q1 _ => n k1 D1 q1.b)
theorem ws_append {xs : List PyData} (hi : ρ[i]? = some (.o xs)) (hl : xs.length < 90000) (h : WA R K E XP ρ m tr fun rs m1 => ∃ x, DLo rs = some [x] ∧ nx (ρ.set i (.o (xs ++ [x]))) m1) : WS R K E XP ρ m (tDrop (tBM K "list" rAppend (tVar i) tr)) nx rt bk ct := by with_unfolding_all exact (fun D d n _ _ _ => by
  obtain ⟨w, h1, p, us, rfl, h2, h3, h4, h5, h6⟩ := d.s i _ hi
  refine ⟨.ref p, h1, .inl ⟨rfl, _, sql h2⟩, ?_⟩
  refine wa_data (k' := fun ds m1 => ∃ x, ds = [x] ∧ nx (ρ.set i (.o (xs ++ [x]))) m1) (fun D Q q => h D Q fun vs rs m' F' H' B' ⟨x, e, k⟩ => q vs rs m' F' H' B' ⟨_, e, x, rfl, k⟩) d _ fun vs ds m1 F1 H1 B1 ⟨x, e, k1⟩ D1 q1 hd => ?_
  subst e
  cases hd with
  | cons g1 g2 =>
    cases g2
    have e1 := q1.k _ _ h2 h4
    have hu := dqa_len h6
    exact ⟨p, us, _, rfl, rfl, e1, szl (by omega), n k1 (D1.putO hi h1 (dqa_app (dqa_same q1.b _ h6) (.cons g1 .nil))) q1.b⟩)
theorem ws_ret (h : WE R K E XP ρ m te fun r m1 => rt r m1) : WS R K E XP ρ m (tRet te) nx rt bk ct := by with_unfolding_all exact (fun D d _ rt _ _ => h d _ fun v r m1 F1 H1 B1 k1 D1 q1 r1 => rt k1 D1.st D1.r (r1.base fun x hx => d.st.e x hx))
theorem ws_retO {xs : List PyData} (hi : ρ[i]? = some (.o xs)) (hk : rt (.o xs) m) : WS R K E XP ρ m (tRet (tVar i)) nx rt bk ct := by with_unfolding_all exact (fun D d _ rt _ _ => by
  obtain ⟨w, h1, p, us, rfl, h2, h3, h4, h5, h6⟩ := d.s i _ hi
  exact ⟨_, h1, rt hk d.st d.r ⟨p, us, rfl, h2, h3, h4, h5, h6⟩⟩)
theorem ws_retN (hk : rt (.d .none) m) : WS R K E XP ρ m tRetN nx rt bk ct := by with_unfolding_all exact (fun D d _ rt _ _ => rt hk d.st d.r .non)
theorem ws_if {c : TT} (h : WT R K E XP ρ m c fun b m1 => (b = true → WS R K E XP ρ m1 t nx rt bk ct) ∧ (b = false → WS R K E XP ρ m1 u nx rt bk ct)) : WS R K E XP ρ m (tIfS c t u) nx rt bk ct := by with_unfolding_all exact (fun D d n r b c =>
  h d _ fun x m1 F1 H1 B1 k1 D1 q1 => by
    cases x with
    | true => exact (if_pos rfl).mpr (k1.1 rfl D D1 (fun k e t => n k e (q1.b.trans t)) r (fun k e t => b k e (q1.b.trans t)) (fun k e t => c k e (q1.b.trans t)))
    | false => exact (if_neg Bool.false_ne_true).mpr (k1.2 rfl D D1 (fun k e t => n k e (q1.b.trans t)) r (fun k e t => b k e (q1.b.trans t)) (fun k e t => c k e (q1.b.trans t))))
theorem ws_freeze {xs : List PyData} (i : Nat) (hi : ρ[i]? = some (.o xs)) (h : WS R K E XP (ρ.set i (.d (.list xs))) m t nx rt bk ct) : WS R K E XP ρ m t nx rt bk ct := by with_unfolding_all exact (fun D d n r b c => by
  obtain ⟨B', D', s', _⟩ := d.freezeS hi
  exact h D D' (fun k e t => n k e (s'.trans t)) r (fun k e t => b k e (s'.trans t)) (fun k e t => c k e (s'.trans t)))
theorem ws_wk {ρ' : List Sl} (w : Wk ρ ρ') (h : WS R K E XP ρ' m t nx rt bk ct) : WS R K E XP ρ m t nx rt bk ct := by with_unfolding_all exact (fun D d n r b c => h D (d.wk w) n r b c)
/-- the slots that stay known behind a turn -/
def Nxt (S : Type) (ρs : S → List Sl) (ms : S → M) (I : S → Prop) (ρ' : List Sl) (m' : M) : Prop := ∃ s, Wk ρ' (ρs s) ∧ m' = ms s ∧ I s
theorem nxt {S : Type} {ρs : S → List Sl} {ms : S → M} {I : S → Prop} {ρ' : List Sl} {m' : M} (s : S) (w : Wk ρ' (ρs s)) (e : m' = ms s) (i : I s) : Nxt S ρs ms I ρ' m' := ⟨s, w, e, i⟩
/-- what follows is shown once -/
theorem ws_cut (S : Type) (ρs : S → List Sl) (I : S → Prop) (h : WS R K E XP ρ m t (Nxt S ρs (fun _ => m) I) rt bk ct) (g : ∀ s, I s → WS R K E XP (ρs s) m u nx rt bk ct) : WS R K E XP ρ m (C8.tCut t u) nx rt bk ct := by with_unfolding_all exact (fun {F0 H0 B0 F H B σ} D d n r b c =>
  ⟨fun σ' H' => ∃ s F' B', I s ∧ DS R K E XP F0 H0 B0 F' H' B' σ' (ρs s) m ∧ Same B B', h { D with nx := _ } d (fun ⟨s, w, e, i⟩ d' t => by subst e; exact ⟨s, _, _, i, d'.wk w, t⟩) r b c, fun σ' H' ⟨s, F', B', i, d', s'⟩ => g s i D d' (fun k e t => n k e (s'.trans t)) r (fun k e t => b k e (s'.trans t)) (fun k e t => c k e (s'.trans t))⟩)
/-! loops -/
/-- what is walked gives data and changes nothing -/
def WkI (K : PySem.W.Frag) (J : It) (B : Hp) (xs : List PyData) : Prop := ∃ (n : Nat) (G : Hp → Prop) (Y : Nat → Hp → V → Hp → Prop), n = xs.length ∧ Walk J n G Y ∧ (∀ H, Same B H → G H) ∧ ∀ i H x H', i < n → Y i H x H' → Same B H → H' = H ∧ ∃ d, xs[i]? = some d ∧ Dq K B x d
@[irreducible] def WI (R : MR M) (K : PySem.W.Frag) (E : XK) (XP : Addr → M → Prop) (ρ : List Sl) (m : M) (wi : TI) (k : List PyData → M → Prop) : Prop := ∀ {F0 H0 B0 F H B σ}, DS R K E XP F0 H0 B0 F H B σ ρ m → ∀ Q : It → Hp → Prop, (∀ J xs m' F' H' B', k xs m' → DS R K E XP F0 H0 B0 F' H' B' σ ρ m' → Stq F H B F' H' B' → WkI K J B' xs → Q J H') → wi σ H Q
/-- a result that is a list, as data -/
def LDo : Rk → Option (List PyData)
  | .d (.list xs) => some xs
  | .o xs => some xs
  | _ => none
theorem wi_list {k : List PyData → M → Prop} (h : WE R K E XP ρ m te fun r m1 => ∃ xs, LDo r = some xs ∧ k xs m1) : WI R K E XP ρ m (iList K te) k := by with_unfolding_all exact (fun D Q q =>
  h D _ fun v r m1 F1 H1 B1 ⟨xs, e, k1⟩ D1 q1 r1 => by
    have fin : ∀ (B' : Hp) (p : Addr) (vs : List V), Same B1 B' → DS R K E XP _ _ _ F1 H1 B' _ ρ m1 → (∀ x, _ → B1 x = none → B' x = none) → B' p = some (.lst vs) → DqAll K B' vs xs → ∃ a, V.ref p = .ref a ∧ (∃ xs, SqL K H1 a xs) ∧ Q (Itl K a) H1 := fun B' p vs b1 D' f' hp hd =>
      ⟨p, rfl, ⟨vs, sql (D'.st.s _ _ hp)⟩, q _ xs m1 F1 H1 B' k1 D' ⟨q1.b.trans b1, D'.st.s, fun x h1 h2 => f' x h1 (q1.f x h1 h2), q1.k, q1.n, q1.e⟩ ⟨vs.length, _, _, dqa_len hd, walk_list, fun H hs => sql (hs _ _ hp), fun i H x H' _ hy hs => ⟨hy.1, by obtain ⟨d, h1, h2⟩ := dqa_atV hd hy.2; exact ⟨d, h1, h2⟩⟩⟩⟩
    cases r with
    | d x =>
      cases x with
      | list ys =>
        cases e
        obtain ⟨p, vs, rfl, g1, g2⟩ := dq_lst r1
        exact fin B1 p vs (Same.refl _) D1 (fun _ _ h => h) g1 g2
      | _ => cases e
    | o ys =>
      cases e
      obtain ⟨p, vs, rfl, g1, g2, g3, g4, g5⟩ := r1
      have h0 : ∀ x, _ → _ := fun x hx => D.st.e x hx
      have hp0 : _ := Classical.byContradiction fun z => h0 p z g4
      refine fin (upd B1 p (.lst vs)) p vs (same_upd g2) (D1.freeze g1 g2 g3 hp0 fun j ys hj hz => D.own j ys p hj hz g4) (fun x hx hb => ?_) upd_same (dqa_same (same_upd g2) _ g5)
      rw [upd_ne (fun z => hx (by rw [z]; exact g4))]
      exact hb
    | l _ => cases e
    | v _ => cases e
    | c _ => cases e)
theorem wi_tup {k : List PyData → M → Prop} (h : WE R K E XP ρ m te fun r m1 => ∃ xs, r = .d (.tuple xs) ∧ k xs m1) : WI R K E XP ρ m (iTup K te) k := by with_unfolding_all exact (fun D Q q =>
  h D _ fun v r m1 F1 H1 B1 ⟨xs, e, k1⟩ D1 q1 r1 => by
    subst e
    obtain ⟨p, vs, rfl, g1, g2⟩ := dq_tup r1
    exact ⟨p, rfl, ⟨vs, sqt_same D1.st.s g1⟩, q _ xs m1 F1 H1 B1 k1 D1 q1 ⟨vs.length, _, _, dqa_len g2, walk_tup, fun H hs => sqt_same hs g1, fun i H x H' _ hy hs => ⟨hy.1, by obtain ⟨d, h1, h2⟩ := dqa_atV g2 hy.2; exact ⟨d, h1, h2⟩⟩⟩⟩)
/-- the signs of a text -/
def signs (z : Str) : List PyData := z.cps.toList.map fun c => .str ⟨#[c]⟩
theorem wi_str {k : List PyData → M → Prop} (h : WE R K E XP ρ m te fun r m1 => ∃ z, r = .d (.str z) ∧ k (signs z) m1) : WI R K E XP ρ m (iStr te) k := by with_unfolding_all exact (fun D Q q =>
  h D _ fun v r m1 F1 H1 B1 ⟨z, e, k1⟩ D1 q1 r1 => by
    subst e
    exact ⟨z, dq_str r1, q _ _ m1 F1 H1 B1 k1 D1 q1 ⟨z.cps.size, _, _, by unfold signs; simp, walk_str, fun _ _ => True.intro, fun i H x H' _ hy hs => by
      obtain ⟨h1, c, hc, rfl⟩ := hy
      refine ⟨h1, _, ?_, .str _⟩
      unfold signs
      rw [List.getElem?_map]
      have : z.cps.toList[i]? = some c := by simpa using hc
      rw [this]; rfl⟩⟩)
/-- the numbers of a range -/
def nums (lo : Int) (n : Nat) : List PyData := (List.range n).map fun (j : Nat) => .int (lo + (j : Int))
theorem nums_len (lo : Int) (n : Nat) : (nums lo n).length = n := by unfold nums; rw [List.length_map, List.length_range]
theorem nums_at {lo : Int} {n i : Nat} {x : PyData} (h : (nums lo n)[i]? = some x) : i < n ∧ x = .int (lo + (i : Int)) := by
  unfold nums at h
  rw [List.getElem?_map] at h
  by_cases hi : i < n
  · rw [List.getElem?_range hi] at h
    exact ⟨hi, (Option.some.inj h).symm⟩
  · rw [List.getElem?_eq_none (by rw [List.length_range]; omega)] at h
    cases h
theorem wkI_range {B : Hp} {lo : Int} {n : Nat} : WkI K (Itr lo n) B (nums lo n) := ⟨n, _, _, (nums_len lo n).symm, walk_range, fun _ _ => True.intro, fun i H x H' hi hy hs => by
  obtain ⟨h1, rfl⟩ := hy
  refine ⟨h1, .int (lo + i), ?_, .int _⟩
  unfold nums
  rw [List.getElem?_map, List.getElem?_range hi]; rfl⟩
theorem wi_rng1 {k : List PyData → M → Prop} (h : WA R K E XP ρ m tr fun rs m1 => ∃ j, rs = [.d (.int j)] ∧ -(2 ^ 62) ≤ j ∧ j < 2 ^ 62 ∧ k (nums 0 j.toNat) m1) : WI R K E XP ρ m (iRng1 tr) k := by with_unfolding_all exact (fun D Q q =>
  h D _ fun vs rs m1 F1 H1 B1 ⟨j, e, h1, h2, k1⟩ D1 q1 r1 => by
    subst e
    obtain ⟨v, rfl, r2⟩ := relA1 r1
    exact ⟨j, by rw [dq_int r2], h1, h2, q _ _ m1 F1 H1 B1 k1 D1 q1 wkI_range⟩)
theorem wi_rng2 {k : List PyData → M → Prop} (h : WA R K E XP ρ m tr fun rs m1 => ∃ i j, rs = [.d (.int i), .d (.int j)] ∧ (-(2 ^ 62) ≤ i ∧ i < 2 ^ 62 ∧ -(2 ^ 62) ≤ j ∧ j < 2 ^ 62) ∧ k (nums i (j - i).toNat) m1) : WI R K E XP ρ m (iRng2 tr) k := by with_unfolding_all exact (fun D Q q =>
  h D _ fun vs rs m1 F1 H1 B1 ⟨i, j, e, h1, k1⟩ D1 q1 r1 => by
    subst e
    obtain ⟨v, w, rfl, r2, r3⟩ := relA2 r1
    exact ⟨i, j, by rw [dq_int r2, dq_int r3], h1, q _ _ m1 F1 H1 B1 k1 D1 q1 wkI_range⟩)
theorem ws_for {wi : TI} {g : TG} {tb : TS} (h : WI R K E XP ρ m wi fun xs m1 => ∃ (S : Type) (ρs : S → List Sl) (ms : S → M) (I : Nat → S → Prop), Nxt S ρs ms (I 0) ρ m1 ∧
    (∀ i x s, xs[i]? = some x → I i s → WG R K E XP (ρs s) (ms s) g x fun ρ1 => WS R K E XP ρ1 (ms s) tb (Nxt S ρs ms (I (i + 1))) rt nx (Nxt S ρs ms (I (i + 1)))) ∧
    ∀ s, I xs.length s → nx (ρs s) (ms s)) : WS R K E XP ρ m (tFor wi g tb) nx rt bk ct := by with_unfolding_all exact (fun {F0 H0 B0 F H B σ} D d n r b c => by
  refine h d _ fun J xs m1 F1 H1 B1 ⟨S, ρs, ms, I, ⟨s0, w0, e0, i0⟩, step, fin⟩ D1 q1 hw => ?_
  obtain ⟨nn, G, Y, hn, wk, hG, hY⟩ := hw
  refine for_it wk (fun i σ' H' => ∃ s F' B', I i s ∧ DS R K E XP F0 H0 B0 F' H' B' σ' (ρs s) (ms s) ∧ Same B1 B') ⟨s0, F1, B1, i0, by subst e0; exact D1.wk w0, Same.refl _⟩ (fun i σ' H' _ ⟨s, F', B', _, D', b'⟩ => hG H' (b'.trans D'.st.s)) ?_ ?_
  · rintro i x σ' H' H2 hi ⟨s, F', B', hI, D', b'⟩ hy
    obtain ⟨rfl, dd, hx, hd⟩ := hY i H' x H2 hi hy (b'.trans D'.st.s)
    refine step i dd s hx hI D' (dq_same b' _ hd) _ fun σ2 ρ2 hs D2 => ?_
    exact hs { D with nx := _, ct := _, bk := _ } D2 (fun ⟨s, w, e, i⟩ d' t => by subst e; exact ⟨s, _, _, i, d'.wk w, b'.trans t⟩) r (fun k e t => n k e (q1.b.trans (b'.trans t))) (fun ⟨s, w, e, i⟩ d' t => by subst e; exact ⟨s, _, _, i, d'.wk w, b'.trans t⟩)
  · rintro σ' H' ⟨s, F', B', hI, D', b'⟩
    rw [hn] at hI
    exact n (fin s hI) D' (q1.b.trans b'))
end
/-! ## comprehensions -/
def wipeS (ρ : List Sl) : List Nat → List Sl
  | [] => ρ
  | v :: vs => (wipeS ρ vs).set v .u
theorem wipe_idem (σ : L2.St) (vs : List Nat) : wipe (wipe σ vs) vs = wipe σ vs := by
  refine List.ext_getElem? fun j => ?_
  by_cases hj : j ∈ vs
  · rw [wipe_in hj, wipe_in hj, wipe_length]
  · rw [wipe_out hj]
section
variable {M : Type} {R : MR M} {K : PySem.W.Frag} {E : XK} {XP : Addr → M → Prop} {ρ : List Sl} {m : M} {F0 F : AP} {H0 B0 H B Hs : Hp} {σ : L2.St}
theorem DS.wipe (D : DS R K E XP F0 H0 B0 F H B σ ρ m) : ∀ vs : List Nat, DS R K E XP F0 H0 B0 F H B (wipe σ vs) (wipeS ρ vs) m
  | [] => D
  | v :: vs => (DS.wipe D vs).setW v True.intro fun _ _ e => by cases e
theorem DS.putN (D : DS R K E XP F0 H0 B0 F H B σ ρ m) {p : Addr} {o : HO} (hb : B p = none) (hF : ¬ F p) (h0 : H0 p = none) (hn : ∀ (i : Nat) (xs : List PyData), ρ[i]? = some (.o xs) → σ[i]? ≠ some (some (.ref p))) : DS R K E XP F0 H0 B0 F (upd H p o) B σ ρ m where
  l := D.l
  st := D.st.put h0 hb
  r := R.frame D.r (fun x hx => upd_ne fun z => hF (by rw [← z]; exact hx)) (Same.refl _) fun x hx => (R.dom D.r hx).2
  s := fun i t ht => by
    obtain ⟨w, h1, h2⟩ := D.s i t ht
    refine ⟨w, h1, ?_⟩
    cases t with
    | u => exact True.intro
    | d x => exact h2
    | o xs =>
      obtain ⟨q, us, rfl, h3, h4, h5, h6, h7⟩ := h2
      refine ⟨q, us, rfl, ?_, h4, h5, h6, h7⟩
      rw [upd_ne (fun z => hn i xs ht (by rw [h1, z]))]
      exact h3
    | v x => exact h2
    | l xs =>
      obtain ⟨q, us, rfl, h3, h5, h6, h7⟩ := h2
      exact ⟨q, us, rfl, (upd_ne fun z => h6 (by rw [z]; exact h0)).trans h3, h5, h6, h7⟩
  oo := D.oo
  x := D.x
end
section
variable {M : Type} {R : MR M} {K : PySem.W.Frag} {E : XK} {XP : Addr → M → Prop} {ρ : List Sl} {m : M} {k : Rk → M → Prop} {ta tb tc te : TE} {tr : TA}
/-- a target sets no other slots than these -/
def Wipes (g : TG) (vs : List Nat) : Prop := ∀ v σ H Q Q', g v σ H Q → (∀ σ', Q σ' H → L2.wipe σ' vs = L2.wipe σ vs → Q' σ' H) → g v σ H Q'
def WipesS (g : TGs) (vs : List Nat) : Prop := ∀ v σ H Q Q', g v σ H Q → (∀ σ', Q σ' H → L2.wipe σ' vs = L2.wipe σ vs → Q' σ' H) → g v σ H Q'
theorem wipes_name {i : Nat} {vs : List Nat} (h : i ∈ vs) : Wipes (gName i) vs := fun v σ H Q Q' q w => w _ q (wipe_set h)
theorem wipes_nil {vs : List Nat} : WipesS gNil vs := fun v σ H Q Q' ⟨e, q⟩ w => ⟨e, w _ q rfl⟩
theorem wipes_cons {g : TG} {gs : TGs} {vs : List Nat} (h1 : Wipes g vs) (h2 : WipesS gs vs) : WipesS (gCons g gs) vs := fun v σ H Q Q' ⟨x, xs, e, q⟩ w =>
  ⟨x, xs, e, h1 _ _ _ _ _ q fun σ' q' w' => h2 _ _ _ _ _ q' fun σ'' q'' w'' => w _ q'' (w''.trans w')⟩
theorem wipes_tup {n : Nat} {gs : TGs} {vs : List Nat} (h : WipesS gs vs) : Wipes (gTup K n gs) vs := fun v σ H Q Q' ⟨p, xs, e, h1, h2, q⟩ w => ⟨p, xs, e, h1, h2, h _ _ _ _ _ q w⟩
theorem we_lc {wi : TI} {g : TG} {tt : TT} {vs : List Nat} (hsl : Wipes g vs) (h : WI R K E XP ρ m wi fun xs m1 => ∃ (I : Nat → List PyData → Prop), I 0 [] ∧
    (∀ i x ys, xs[i]? = some x → I i ys → WG R K E XP (wipeS ρ vs) m1 g x fun ρ1 => WT R K E XP ρ1 m1 tt fun b m2 => m2 = m1 ∧
      (b = true → WA R K E XP ρ1 m1 (tCons te tNil) fun rs m3 => m3 = m1 ∧ ∃ y, DLo rs = some [y] ∧ ys.length < 90000 ∧ I (i + 1) (ys ++ [y])) ∧ (b = false → I (i + 1) ys)) ∧
    ∀ ys, I xs.length ys → k (.o ys) m1) : WE R K E XP ρ m (tLc wi g tt te vs) k := by with_unfolding_all exact (fun {F0 H0 B0 F H B σ} D Q q =>
  h D _ fun J xs m1 F1 H1 B1 ⟨I, i0, step, fin⟩ D1 q1 ⟨n, G, Y, hn, wk, hG, hY⟩ A hA => by
    have hA0 : H0 A = none := Classical.byContradiction fun z => D1.st.e A z hA
    have hAn : ∀ (i : Nat) (xs : List PyData), ρ[i]? = some (.o xs) → σ[i]? ≠ some (some (.ref A)) := fun i xs h1 h2 => D1.own i xs A h1 h2 hA
    refine lc_it wk (fun i G' => ∃ F' B' us ys, I i ys ∧ DS R K E XP F0 H0 B0 F' G' B' σ ρ m1 ∧ Stq F1 H1 B1 F' G' B' ∧ G' A = some (.lst us) ∧ B' A = none ∧ ¬ F' A ∧ DqAll K B' us ys)
      ⟨F1, B1, [], [], i0, D1.newO hA, .newO D1.st.s hA, upd_same, b_none D1.st.s hA, D1.nF hA, .nil⟩ (fun i G' _ ⟨F', B', _, _, _, D', q', _⟩ => hG G' (q'.b.trans D'.st.s)) ?_ ?_
    · rintro i x G' G2 hi ⟨F', B', us, ys, hI, D', q', eA, bA, fA, hd⟩ hy
      obtain ⟨rfl, dd, hx, hdx⟩ := hY i G' x G2 hi hy (q'.b.trans D'.st.s)
      have Dw := D'.wipe vs
      refine hsl _ _ _ _ _ (step i dd ys hx hI Dw (dq_same q'.b _ hdx) (fun σ2 H2 => H2 = G2 → ∃ ρ2, (WT R K E XP ρ2 m1 tt fun b m2 => m2 = m1 ∧ (b = true → WA R K E XP ρ2 m1 (tCons te tNil) fun rs m3 => m3 = m1 ∧ ∃ y, DLo rs = some [y] ∧ ys.length < 90000 ∧ I (i + 1) (ys ++ [y])) ∧ (b = false → I (i + 1) ys)) ∧ DS R K E XP F0 H0 B0 F' G2 B' σ2 ρ2 m1) fun σ2 ρ2 hT D2 _ => ⟨ρ2, hT, D2⟩) fun σ2 hq2 w2 => ⟨w2.trans (wipe_idem σ vs), ?_⟩
      obtain ⟨ρ2, hT, D2⟩ := hq2 rfl
      refine hT D2 _ fun b m2 F3 H3 B3 ⟨e2, hb1, hb2⟩ D3 q3 => ?_
      subst e2
      have eA3 := q3.k _ _ eA fA
      have hAne : G2 A ≠ none := by rw [eA]; simp
      cases b with
      | false =>
        refine (if_neg Bool.false_ne_true).mpr ⟨F3, B3, us, ys, hb2 rfl, D'.step q3 D3.r, q'.trans q3, eA3, q3.f _ hAne bA, q3.n _ hAne fA, dqa_same q3.b _ hd⟩
      | true =>
        refine (if_pos rfl).mpr ?_
        have hfin := wa_data (k' := fun ds m3 => m3 = m2 ∧ ∃ y, ds = [y] ∧ ys.length < 90000 ∧ I (i + 1) (ys ++ [y])) (fun D Q q => hb1 rfl D Q fun vs rs m' F' H' B' ⟨e, y, e2, hl, hk⟩ => q vs rs m' F' H' B' ⟨_, e2, e, y, rfl, hl, hk⟩) D3 (fun vs H4 => match vs with
          | [y] => ∃ acc, H4 A = some (.lst acc) ∧ acc.length < sizeLine ∧ ∃ F' B' us ys, I (i + 1) ys ∧ DS R K E XP F0 H0 B0 F' (upd H4 A (.lst (acc ++ [y]))) B' σ ρ m2 ∧ Stq F1 H1 B1 F' (upd H4 A (.lst (acc ++ [y]))) B' ∧ (upd H4 A (.lst (acc ++ [y]))) A = some (.lst us) ∧ B' A = none ∧ ¬ F' A ∧ DqAll K B' us ys
          | _ => False) (fun ws ds m4 F4 H4 B4 ⟨e, y, e2, hl, hk⟩ D4 q4 hd4 => by
          subst e e2
          obtain ⟨z, rfl⟩ : ∃ z, ws = [z] := by
            cases hd4 with
            | cons _ h => cases h; exact ⟨_, rfl⟩
          have q34 := q3.trans q4
          have eA4 := q34.k _ _ eA fA
          have bA4 := q34.f _ hAne bA
          have fA4 := q34.n _ hAne fA
          have hus := dqa_len hd
          have q5 := q'.trans q34
          exact ⟨us, eA4, szl (by omega), F4, B4, us ++ [z], ys ++ [y], hk, (D'.step q34 D4.r).putN bA4 fA4 hA0 hAn, q5.put hA bA4, upd_same, bA4, fA4, dqa_app (dqa_same q34.b _ hd) hd4⟩)
        exact hfin
    · rintro G' ⟨F', B', us, ys, hI, D', q', eA, bA, fA, hd⟩
      rw [hn] at hI
      exact q _ _ m1 F' G' B' (fin ys hI) D' (q1.trans q') ⟨A, us, rfl, eA, bA, fA, Classical.byContradiction fun z => q1.e A z hA, hd⟩)
end
section
variable {M : Type} {R : MR M} {K : PySem.W.Frag} {E : XK} {XP : Addr → M → Prop} {ρ : List Sl} {m : M} {k : Rk → M → Prop} {ta tb tc te : TE} {tr : TA} {i j : Int}
theorem opP_add (hk : k (.d (.int (i + j))) m) : OpP R K E XP ρ m (rI0 fun i j => .int (i + j)) (.d (.int i)) (.d (.int j)) k := opP_i0 hk
theorem opP_sub (hk : k (.d (.int (i - j))) m) : OpP R K E XP ρ m (rI0 fun i j => .int (i - j)) (.d (.int i)) (.d (.int j)) k := opP_i0 hk
theorem opP_lt (hk : k (.d (.bool (decide (i < j)))) m) : OpP R K E XP ρ m (rI0 fun i j => .bl (decide (i < j))) (.d (.int i)) (.d (.int j)) k := opP_i0 hk
theorem opP_le (hk : k (.d (.bool (decide (i ≤ j)))) m) : OpP R K E XP ρ m (rI0 fun i j => .bl (decide (i ≤ j))) (.d (.int i)) (.d (.int j)) k := opP_i0 hk
theorem opP_gt (hk : k (.d (.bool (decide (j < i)))) m) : OpP R K E XP ρ m (rI0 fun i j => .bl (decide (j < i))) (.d (.int i)) (.d (.int j)) k := opP_i0 hk
theorem opP_ge (hk : k (.d (.bool (decide (j ≤ i)))) m) : OpP R K E XP ρ m (rI0 fun i j => .bl (decide (j ≤ i))) (.d (.int i)) (.d (.int j)) k := opP_i0 hk
theorem opP_mul (hc : CMul i j) (hk : k (.d (.int (i * j))) m) : OpP R K E XP ρ m (rI CMul fun i j => .int (i * j)) (.d (.int i)) (.d (.int j)) k := opP_ic hc hk
theorem opP_mod (hc : 0 < j) (hk : k (.d (.int (i % j))) m) : OpP R K E XP ρ m (rI (fun _ j => 0 < j) fun i j => .int (i % j)) (.d (.int i)) (.d (.int j)) k := opP_ic (C := fun _ j => 0 < j) (g := fun i j => .int (i % j)) hc hk
theorem opP_fdiv (hc : CDiv i j) (hk : k (.d (.int (i / j))) m) : OpP R K E XP ρ m (rI CDiv fun i j => .int (i / j)) (.d (.int i)) (.d (.int j)) k := opP_ic hc hk
theorem we_chain {r r' : R2} (h : WE R K E XP ρ m ta fun a m1 => WE R K E XP ρ m1 tb fun b m2 => OpP R K E XP ρ m2 r a b fun c m3 => ∃ z, c = .d (.bool z) ∧ (z = true → WE R K E XP ρ m3 tc fun d m4 => OpP R K E XP ρ m4 r' b d k) ∧ (z = false → k (.d (.bool false)) m3)) : WE R K E XP ρ m (tChain r r' ta tb tc) k := by with_unfolding_all exact (fun D Q q =>
  h D _ fun v a m1 F1 H1 B1 k1 D1 q1 r1 => k1 D1 _ fun w b m2 F2 H2 B2 k2 D2 q2 r2 => k2 D2 (r1.step q2) (r2.base fun x hx => q1.e x hx) _ fun z c m3 F3 H3 B3 ⟨y, e, k3, k4⟩ D3 q3 r3 => by
    subst e
    refine ⟨y, dq_bl r3, ?_⟩
    cases y with
    | true => exact (if_pos rfl).mpr (k3 rfl D3 _ fun u d m4 F4 H4 B4 k5 D4 q4 r4 => k5 D4 ((r2.step q3).step q4) (r4.base fun x hx => q3.e x (q2.e x hx)) _ fun v c m' F' H' B' k6 D5 q5 r5 => q v c m' F' H' B' k6 D5 (q1.trans (q2.trans (q3.trans (q4.trans q5)))) (r5.base fun x hx => q4.e x (q3.e x (q2.e x (q1.e x hx)))))
    | false => exact (if_neg Bool.false_ne_true).mpr (q _ _ m3 F3 H3 B3 (k4 rfl) D3 (q1.trans (q2.trans q3)) (.bl false)))
/-- truth -/
def truD : PyData → Option Bool
  | .none => some false
  | .bool b => some b
  | .int i => some (i != 0)
  | .str x => if x.length ≤ 100000 then some ((x.length : Int) != 0) else none
  | .list xs => some (!xs.isEmpty)
  | .tuple xs => some (!xs.isEmpty)
  | _ => none
theorem wt_tru {k : Bool → M → Prop} (h : WE R K E XP ρ m te fun r m1 => ∃ d b, asD r = some d ∧ truD d = some b ∧ k b m1) : WT R K E XP ρ m (tTru K te) k := by with_unfolding_all exact (fun D Q q =>
  h D _ fun v r m1 F1 H1 B1 ⟨d, b, e, t, k1⟩ D1 q1 r1 => by
    refine ⟨b, ?_, q b m1 F1 H1 B1 k1 D1 q1⟩
    have hd := rel_asD D1.st.s r1 e
    have ie : ∀ {vs : List V} {ds : List PyData}, vs.length = ds.length → vs.isEmpty = ds.isEmpty := fun {vs ds} h => by cases vs <;> cases ds <;> first | rfl | cases h
    cases hd with
    | non => cases t; rfl
    | bl b => cases t; rfl
    | int i => cases t; rfl
    | str x =>
      by_cases hl : x.length ≤ 100000
      · have : some ((x.length : Int) != 0) = some b := by rw [← t]; exact (if_pos hl).symm
        cases this
        exact ⟨sz hl, rfl⟩
      · have : none = some b := by rw [← t]; exact (if_neg hl).symm
        cases this
    | lst h a => cases t; exact .inl ⟨_, h, by rw [ie (dpa_len a)]⟩
    | tup h a => cases t; exact .inr (.inl ⟨_, h, by rw [ie (dpa_len a)]⟩))
theorem callK_all {X : Cx} (h : X.K = K) (hc : X.calm = true) : CallR X (.builtin "all") (rAll K) := by subst h; exact cr_all hc
theorem callK_any {X : Cx} (h : X.K = K) (hc : X.calm = true) : CallR X (.builtin "any") (rAny K) := by subst h; exact cr_any hc
theorem callK_sum {X : Cx} (h : X.K = K) (hc : X.calm = true) : CallR X (.builtin "sum") (rSum K) := by subst h; exact cr_sum hc
theorem dqa_bools {H : Hp} : ∀ {bs : List Bool} {vs : List V}, DqAll K H vs (bs.map .bool) → vs = bs.map V.bl
  | [], _, h => by cases h; rfl
  | b :: bs, _, h => by
    cases h with
    | cons h1 h2 => rw [dq_bl h1, dqa_bools h2]; rfl
theorem dqa_intsV {H : Hp} : ∀ {bs : List Int} {vs : List V}, DqAll K H vs (bs.map .int) → vs = bs.map V.int
  | [], _, h => by cases h; rfl
  | b :: bs, _, h => by
    cases h with
    | cons h1 h2 => rw [dq_int h1, dqa_intsV h2]; rfl
theorem dqa_strsV {H : Hp} : ∀ {bs : List Str} {vs : List V}, DqAll K H vs (bs.map .str) → vs = bs.map V.str
  | [], _, h => by cases h; rfl
  | b :: bs, _, h => by
    cases h with
    | cons h1 h2 => rw [dq_str h1, dqa_strsV h2]; rfl
theorem cbP_all {a : Rk} {bs : List Bool} (ha : LR a (bs.map .bool)) (hk : k (.d (.bool (bs.all id))) m) : CbP R K E XP ρ m (rAll K) [a] k :=
  cbP_sc (v := .bl (bs.all id)) rfl (fun s ra Q q => by
    obtain ⟨v, rfl, r1⟩ := relA1 ra
    obtain ⟨p, vs, rfl, h1, h2⟩ := rel_lst s r1 ha
    cases dqa_bools h2
    exact ⟨p, bs, rfl, sql h1, q⟩) hk
theorem cbP_any {a : Rk} {bs : List Bool} (ha : LR a (bs.map .bool)) (hk : k (.d (.bool (bs.any id))) m) : CbP R K E XP ρ m (rAny K) [a] k :=
  cbP_sc (v := .bl (bs.any id)) rfl (fun s ra Q q => by
    obtain ⟨v, rfl, r1⟩ := relA1 ra
    obtain ⟨p, vs, rfl, h1, h2⟩ := rel_lst s r1 ha
    cases dqa_bools h2
    exact ⟨p, bs, rfl, sql h1, q⟩) hk
theorem cbP_sum {a : Rk} {bs : List Int} (ha : LR a (bs.map .int)) (hk : k (.d (.int bs.sum)) m) : CbP R K E XP ρ m (rSum K) [a] k :=
  cbP_sc (v := .int bs.sum) rfl (fun s ra Q q => by
    obtain ⟨v, rfl, r1⟩ := relA1 ra
    obtain ⟨p, vs, rfl, h1, h2⟩ := rel_lst s r1 ha
    cases dqa_intsV h2
    exact ⟨p, bs, rfl, sql h1, q⟩) hk
/-- sep.join(list of texts) -/
def rJoinK (K : PySem.W.Frag) : V → List V → Hp → VK → Prop := fun x xs H Q => ∃ a p, ∃ ys : List Str, x = .str a ∧ xs = [.ref p] ∧ (SqL K H p (ys.map V.str) ∨ SqT K H p (ys.map V.str)) ∧ (ys.map (·.length)).sum + ys.length * a.length ≤ 16777216 ∧ Q (.str (Txt.join a ys)) H
theorem peK_join {X : Cx} {to : TE} {o e : Expr} {apos pos : Pos} (h : X.K = K) (ho : PE X o to) (he : PE X e te) (hs : starEach [e] X.env = [(false, eval e X.env)] := by rfl) (hbase : attributeBase o "join" X.env (eval o X.env) = eval o X.env := by rfl) (hline : (apos.endLine == pos.line) = true := by rfl) :
    PE X (.Call (.Attribute o "join" apos) [e] [] pos) (tM1 (rJoinK K) to te) := by subst h; exact pe_join ho he hs hbase hline
theorem we_join {to : TE} (h : WE R K E XP ρ m to fun a m1 => ∃ z, a = .d (.str z) ∧ WE R K E XP ρ m1 te fun b m2 => ∃ ys, LR b (ys.map .str) ∧ (ys.map (·.length)).sum + ys.length * z.length ≤ 16777216 ∧ k (.d (.str (Txt.join z ys))) m2) : WE R K E XP ρ m (tM1 (rJoinK K) to te) k := by with_unfolding_all exact (fun D Q q =>
  h D _ fun v a m1 F1 H1 B1 ⟨z, e, k1⟩ D1 q1 r1 => by
    subst e
    cases dq_str r1
    refine ⟨⟨z, rfl⟩, k1 D1 _ fun w b m2 F2 H2 B2 ⟨ys, hl, hz, k2⟩ D2 q2 r2 => ?_⟩
    obtain ⟨p, vs, rfl, h1, h2⟩ := rel_lst D2.st.s r2 hl
    cases dqa_strsV h2
    exact ⟨z, p, ys, rfl, rfl, .inl (sql h1), hz, q _ _ m2 F2 H2 B2 k2 D2 (q1.trans q2) (.str _)⟩)
end
/-! ## a def's body -/
def isDo : Rk → Prop
  | .d _ => True
  | .o _ => True
  | _ => False
theorem run_P {K : PySem.W.Frag} {E : XK} {pre : List PyData → Prop} {post : List PyData → Rk → Prop} {vs : List V} {H : Hp} {Q : VK} {N : List Str} {ts : TS} (h : spP K pre post vs H Q E) (n : Nat) (hn : N.length - vs.length = n)
    (body : ∀ ds, pre ds → WS noM K E (fun _ _ => False) (ds.map Sl.d ++ List.replicate n Sl.u) () ts (fun _ _ => post ds (.d .none)) (fun r _ => post ds r ∧ isDo r) (fun _ _ => False) (fun _ _ => False)) :
    ts { nx := fun _ H' => Q .non H', rt := Q } (L2.start N vs) H := by
  obtain ⟨ds, B, hd, hB, hp, q⟩ := h
  have hl := dqa_len hd
  have D0 : DS noM K E (fun _ _ => False) (fun _ => False) H B (fun _ => False) H B (L2.start N vs) (ds.map Sl.d ++ List.replicate n Sl.u) () := by
    refine ⟨by unfold L2.start; simp [hl]; omega, .refl hB, fun _ => id, fun i t ht => ?_, fun i j p xs ys h1 => ?_, fun _ _ _ _ _ z => z.elim⟩
    · unfold L2.start
      by_cases hi : i < ds.length
      · rw [List.getElem?_append_left (by rw [List.length_map]; exact hi), List.getElem?_map, List.getElem?_eq_getElem hi] at ht
        cases ht
        obtain ⟨v, h1, h2⟩ := dqa_at hd (List.getElem?_eq_getElem hi)
        refine ⟨some v, ?_, v, rfl, h2⟩
        rw [List.getElem?_append_left (by rw [List.length_map]; omega), List.getElem?_map, h1]
        rfl
      · rw [List.getElem?_append_right (by rw [List.length_map]; omega), List.getElem?_replicate] at ht
        split at ht
        · next hc =>
          cases ht
          rw [List.length_map] at hc
          refine ⟨none, ?_, True.intro⟩
          rw [List.getElem?_append_right (by rw [List.length_map]; omega), List.getElem?_replicate, if_pos (by rw [List.length_map]; omega)]
        · cases ht
    · have := List.mem_of_getElem? h1
      rcases List.mem_append.mp this with z | z
      · obtain ⟨x, _, e⟩ := List.mem_map.mp z; cases e
      · have := (List.mem_replicate.mp z).2; cases this
  have fin : ∀ {v r F' H' B'}, (post ds r ∧ isDo r) → Stq (fun _ => False) H B F' H' B' → (noM.rel () F' H' B') → RelR K H F' H' B' v r → Q v H' := fun {v r F' H' B'} hr st hF rel =>
    q v r H' B' hr.1 (fun x o hx => st.k x o hx id) st.b st.s st.f (by
      cases r with
      | d x => exact rel
      | o xs => obtain ⟨p, us, e, g1, g2, _, g4, g5⟩ := rel; exact ⟨p, us, e, g1, g2, g4, g5⟩
      | l xs => exact hr.2.elim
      | v x => exact hr.2.elim
      | c x => exact hr.2.elim)
  have hb := body ds hp
  unfold WS at hb
  exact hb _ D0 (fun hk D' _ => fin ⟨hk, True.intro⟩ D'.st D'.r .non) (fun hk st hF rel => fin hk st hF rel) (fun z => z.elim) (fun z => z.elim)
/-! ## a def of data, whole -/
theorem cx_K {CX : CXT} {P : Program} {w : World} {K : PySem.W.Frag} {mg : Str → Option Value} {base : Heap} {N : List Str} {qual : Str} {scope : Scope} {f : Addr} {cd : Value} {A : Around} {outer : List Env} {s : Shared} {H : Hp} {E : XK} : (cxOf CX P w K mg base N qual scope f cd A outer s H E).K = K := rfl
theorem cx_Kn {CX : CXT} {P : Program} {w : World} {K : PySem.W.Frag} {mg : Str → Option Value} {base : Heap} {N : List Str} {qual : Str} {scope : Scope} {f : Addr} {cd : Value} {A : Around} {outer : List Env} {s : Shared} {H : Hp} {E : XK} : (cxOf CX P w K mg base N qual scope f cd A outer s H E).nox.K = K := rfl
theorem okP {P : Program} {w : World} {K : PySem.W.Frag} {mg : Str → Option Value} {base : Heap} {x qual : Str} {st : Stmt} {f : Addr} {fd : FuncData} {N ps : List Str} {k : Nat} {pre : List PyData → Prop} {post : List PyData → Rk → Prop}
    (F : Fun K x qual st f fd) (S : FnScope N ps (defScope st)) (n : Nat) (hn : N.length = ps.length + n) (len : ∀ ds, pre ds → ds.length = ps.length)
    (hb : ∀ (cdv : Value) (A : Around) (outer : List Env) (s : Shared) (H : Hp) (E : XK), Room k (A.deeper (envOfC qual (defScope st) s.heap.objs.size f cdv)) →
      ∃ t, PSs (cxOf CX0 P w K mg base N qual (defScope st) f cdv A outer s H E).nox (defBody st) t ∧
        ∀ ds, pre ds → WS noM K E (fun _ _ => False) (ds.map Sl.d ++ List.replicate n Sl.u) () t (fun _ _ => post ds (.d .none)) (fun r _ => post ds r ∧ isDo r) (fun _ _ => False) (fun _ _ => False)) : FnOk P w K mg base CX0 (k + 1) f fd ps (spP K pre post) :=
  F.ok S (fun vs H Q E ⟨ds, B, hd, _, hp, _⟩ => (dqa_len hd).trans (len ds hp)) fun cdv A outer s H vs Q E hr h => by
    obtain ⟨t, h1, h2⟩ := hb cdv A outer s H E hr
    refine ⟨t, h1, run_P h n ?_ fun ds hp => h2 ds hp⟩
    obtain ⟨ds, B, hd, _, hp, _⟩ := h
    rw [dqa_len hd, len ds hp, hn]
    omega
/-- one, two or three things of data -/
def P1 (p : PyData → Prop) : List PyData → Prop := fun ds => ∃ x, ds = [x] ∧ p x
def P2 (p : PyData → PyData → Prop) : List PyData → Prop := fun ds => ∃ x y, ds = [x, y] ∧ p x y
def P3 (p : PyData → PyData → PyData → Prop) : List PyData → Prop := fun ds => ∃ x y z, ds = [x, y, z] ∧ p x y z
theorem P1.len {p : PyData → Prop} : ∀ ds, P1 p ds → ds.length = 1 := fun _ ⟨_, e, _⟩ => by rw [e]; rfl
theorem P2.len {p : PyData → PyData → Prop} : ∀ ds, P2 p ds → ds.length = 2 := fun _ ⟨_, _, e, _⟩ => by rw [e]; rfl
theorem P3.len {p : PyData → PyData → PyData → Prop} : ∀ ds, P3 p ds → ds.length = 3 := fun _ ⟨_, _, _, e, _⟩ => by rw [e]; rfl
/-- the answer is a function of the arguments -/
def R1 (f : PyData → PyData) : List PyData → Rk → Prop := fun ds r => ∀ x, ds = [x] → r = .d (f x)
def R2' (f : PyData → PyData → PyData) : List PyData → Rk → Prop := fun ds r => ∀ x y, ds = [x, y] → r = .d (f x y)
def R3 (f : PyData → PyData → PyData → PyData) : List PyData → Rk → Prop := fun ds r => ∀ x y z, ds = [x, y, z] → r = .d (f x y z)
section
variable {M : Type} {R : MR M} {K : PySem.W.Frag} {E : XK} {XP : Addr → M → Prop} {ρ : List Sl} {m : M}
theorem r1d {f : PyData → PyData} {x y : PyData} (h : y = f x) : R1 f [x] (.d y) ∧ isDo (.d y) := ⟨fun z e => by cases e; rw [h], True.intro⟩
theorem r2d {f : PyData → PyData → PyData} {x y z : PyData} (h : z = f x y) : R2' f [x, y] (.d z) ∧ isDo (.d z) := ⟨fun _ _ e => by cases e; rw [h], True.intro⟩
theorem r3d {f : PyData → PyData → PyData → PyData} {x y z u : PyData} (h : u = f x y z) : R3 f [x, y, z] (.d u) ∧ isDo (.d u) := ⟨fun _ _ _ e => by cases e; rw [h], True.intro⟩
theorem ws_norm {ρ' : List Sl} {i : Nat} {s : Sl} {t : TS} {nx : List Sl → M → Prop} {rt : Rk → M → Prop} {bk ct : List Sl → M → Prop} (e : ρ.set i s = ρ') (h : WS R K E XP ρ' m t nx rt bk ct) : WS R K E XP (ρ.set i s) m t nx rt bk ct := by rw [e]; exact h
/-- the call of a def of data whose answer is a function -/
theorem call1 {f : PyData → PyData} {x : PyData} {k : Rk → M → Prop} (h : k (.d (f x)) m) : ∀ r, R1 f ([x] ++ ([] : List V).map sc) r → k r m := fun r hr => by rw [hr x rfl]; exact h
theorem call2 {f : PyData → PyData → PyData} {x y : PyData} {k : Rk → M → Prop} (h : k (.d (f x y)) m) : ∀ r, R2' f ([x, y] ++ ([] : List V).map sc) r → k r m := fun r hr => by rw [hr x y rfl]; exact h
theorem call3 {f : PyData → PyData → PyData → PyData} {x y z : PyData} {k : Rk → M → Prop} (h : k (.d (f x y z)) m) : ∀ r, R3 f ([x, y, z] ++ ([] : List V).map sc) r → k r m := fun r hr => by rw [hr x y z rfl]; exact h
theorem ifB {b : Bool} {A C : Prop} (h : b = true → A) (g : b = false → C) : (b = true → A) ∧ (b = false → C) := ⟨h, g⟩
end
/-! ## more readings -/
theorem hu65 {k : Nat} {A : Around} (h : Room k A) : A.units + 65 < cLine := by have := h.un; omega
def rGtS : R2 := fun x y H Q => ∃ i j, x = .str i ∧ y = .str j ∧ Q (.bl (decide (j.cps.toList < i.cps.toList))) H
theorem op_gtS {X : Cx} : OpR X (compareOp .Gt) rGtS := op_gt_str
def rLeS : R2 := fun x y H Q => ∃ i j, x = .str i ∧ y = .str j ∧ Q (.bl !decide (j.cps.toList < i.cps.toList)) H
theorem op_leS {X : Cx} : OpR X (compareOp .LtE) rLeS := op_le_str
def rGeS : R2 := fun x y H Q => ∃ i j, x = .str i ∧ y = .str j ∧ Q (.bl !decide (i.cps.toList < j.cps.toList)) H
theorem op_geS {X : Cx} : OpR X (compareOp .GtE) rGeS := op_ge_str
def rNotInS1 : R2 := fun x y H Q => ∃ c z, x = .str ⟨#[c]⟩ ∧ y = .str z ∧ Q (.bl !decide (c ∈ z.cps.toList)) H
theorem op_notInS1 {X : Cx} : OpR X (compareOp .NotIn) rNotInS1 := op_notIn_sign
def rOrd : List V → Hp → VK → Prop := fun xs H Q => ∃ x, xs = [.str x] ∧ x.length = 1 ∧ Q (.int (x.cps.getD 0 0 : Nat)) H
theorem call_ordN {X : Cx} : CallR X (.builtin "ord") rOrd := call_ord
def rAbs : List V → Hp → VK → Prop := fun xs H Q => ∃ i, xs = [.int i] ∧ Q (.int (if i < 0 then -i else i)) H
theorem call_absN {X : Cx} : CallR X (.builtin "abs") rAbs := call_abs
def tJ (ts : List TE) : TE := fun σ H Q => tJs ts Str.empty σ H fun out H1 => Q (.str out) H1
theorem pe_joinedN {X : Cx} {v1 v2 : Expr} {rest : List Expr} {ts : List TE} {pos : Pos} (h : PJ X (v1 :: v2 :: rest) ts) : PE X (.JoinedStr (v1 :: v2 :: rest) pos) (tJ ts) := pe_joined h
section
variable {M : Type} {R : MR M} {K : PySem.W.Frag} {E : XK} {XP : Addr → M → Prop} {ρ : List Sl} {m : M} {k : Rk → M → Prop} {ta tb tc te : TE} {ts : List TE}
theorem opP_gtS {i j : Str} (hk : k (.d (.bool (decide (j.cps.toList < i.cps.toList)))) m) : OpP R K E XP ρ m rGtS (.d (.str i)) (.d (.str j)) k :=
  opP_sc (v := .bl _) rfl (fun _ ra rb Q q => ⟨i, j, dq_str ra, dq_str rb, q⟩) hk
theorem opP_leS {i j : Str} (hk : k (.d (.bool !decide (j.cps.toList < i.cps.toList))) m) : OpP R K E XP ρ m rLeS (.d (.str i)) (.d (.str j)) k :=
  opP_sc (v := .bl _) rfl (fun _ ra rb Q q => ⟨i, j, dq_str ra, dq_str rb, q⟩) hk
theorem opP_geS {i j : Str} (hk : k (.d (.bool !decide (i.cps.toList < j.cps.toList))) m) : OpP R K E XP ρ m rGeS (.d (.str i)) (.d (.str j)) k :=
  opP_sc (v := .bl _) rfl (fun _ ra rb Q q => ⟨i, j, dq_str ra, dq_str rb, q⟩) hk
theorem opP_notInS1 {c : Nat} {z : Str} (hk : k (.d (.bool !decide (c ∈ z.cps.toList))) m) : OpP R K E XP ρ m rNotInS1 (.d (.str ⟨#[c]⟩)) (.d (.str z)) k :=
  opP_sc (v := .bl _) rfl (fun _ ra rb Q q => ⟨c, z, dq_str ra, dq_str rb, q⟩) hk
theorem cbP_ord {c : Nat} (hk : k (.d (.int (c : Int))) m) : CbP R K E XP ρ m rOrd [.d (.str ⟨#[c]⟩)] k :=
  cbP_sc (v := .int (c : Int)) rfl (fun s ra Q q => by
    obtain ⟨v, rfl, r1⟩ := relA1 ra
    cases dq_str r1
    exact ⟨⟨#[c]⟩, rfl, rfl, q⟩) hk
theorem cbP_abs {i : Int} (hk : k (.d (.int (if i < 0 then -i else i))) m) : CbP R K E XP ρ m rAbs [.d (.int i)] k :=
  cbP_sc (v := .int _) rfl (fun s ra Q q => by
    obtain ⟨v, rfl, r1⟩ := relA1 ra
    exact ⟨i, by rw [dq_int r1], q⟩) hk
theorem we_neg (h : WE R K E XP ρ m te fun r m1 => ∃ i, r = .d (.int i) ∧ k (.d (.int (-i))) m1) : WE R K E XP ρ m (tUn (rU fun i => .int (-i)) te) k := by with_unfolding_all exact (fun D Q q =>
  h D _ fun v r m1 F1 H1 B1 ⟨i, e, k1⟩ D1 q1 r1 => by
    subst e
    exact ⟨i, dq_int r1, q _ _ m1 F1 H1 B1 k1 D1 q1 (.int _)⟩)
@[irreducible] def WJ (R : MR M) (K : PySem.W.Frag) (E : XK) (XP : Addr → M → Prop) (ρ : List Sl) (m : M) (ts : List TE) (o : Str) (k : Str → M → Prop) : Prop := ∀ {F0 H0 B0 F H B σ}, DS R K E XP F0 H0 B0 F H B σ ρ m → ∀ Q : Str → Hp → Prop, (∀ z m' F' H' B', k z m' → DS R K E XP F0 H0 B0 F' H' B' σ ρ m' → Stq F H B F' H' B' → Q z H') → tJs ts o σ H Q
theorem wj_nil {o : Str} {k : Str → M → Prop} (hk : k o m) : WJ R K E XP ρ m [] o k := by with_unfolding_all exact (fun D Q q => by
  simp only [L2.tJs]
  exact q _ m _ _ _ hk D (.refl D.st.s))
theorem wj_cons {o : Str} {k : Str → M → Prop} (h : WE R K E XP ρ m te fun r m1 => ∃ y, r = .d (.str y) ∧ (o ++ y).length ≤ sizeLine ∧ WJ R K E XP ρ m1 ts (o ++ y) k) : WJ R K E XP ρ m (te :: ts) o k := by with_unfolding_all exact (fun D Q q => by
  simp only [L2.tJs]
  refine h D _ fun v r m1 F1 H1 B1 ⟨y, e, hl, k1⟩ D1 q1 r1 => ?_
  subst e
  exact ⟨y, dq_str r1, hl, k1 D1 Q fun z m' F' H' B' k3 D3 q3 => q z m' F' H' B' k3 D3 (q1.trans q3)⟩)
theorem we_joined (h : WJ R K E XP ρ m ts Str.empty fun z m1 => k (.d (.str z)) m1) : WE R K E XP ρ m (tJ ts) k := by with_unfolding_all exact (fun D Q q =>
  h D _ fun z m' F' H' B' k3 D3 q3 => q _ _ m' F' H' B' k3 D3 q3 (.str _))
theorem we_fmtI (h : WE R K E XP ρ m te fun r m1 => ∃ i, r = .d (.int i) ∧ i.natAbs.log2 < 1920 ∧ k (.d (.str (Str.ofString (toString i)))) m1) : WE R K E XP ρ m (tFmt te) k := by with_unfolding_all exact (fun D Q q =>
  h D _ fun v r m1 F1 H1 B1 ⟨i, e, hl, k1⟩ D1 q1 r1 => by
    subst e
    exact .inr ⟨i, dq_int r1, hl, q _ _ m1 F1 H1 B1 k1 D1 q1 (.str _)⟩)
theorem we_fmtS (h : WE R K E XP ρ m te fun r m1 => ∃ y, r = .d (.str y) ∧ y.length ≤ sizeLine ∧ k (.d (.str y)) m1) : WE R K E XP ρ m (tFmt te) k := by with_unfolding_all exact (fun D Q q =>
  h D _ fun v r m1 F1 H1 B1 ⟨y, e, hl, k1⟩ D1 q1 r1 => by
    subst e
    exact .inl ⟨y, dq_str r1, hl, q _ _ m1 F1 H1 B1 k1 D1 q1 (.str _)⟩)
end
section
variable {M : Type} {R : MR M} {K : PySem.W.Frag} {E : XK} {XP : Addr → M → Prop} {ρ : List Sl} {m : M}
theorem we_ty {t : String} {k : Rk → M → Prop} (hk : k (.v (.ty t)) m) : WE R K E XP ρ m (tC (.ty t)) k := we_cV hk
theorem ws_eq {ρ' : List Sl} {t : TS} {nx : List Sl → M → Prop} {rt : Rk → M → Prop} {bk ct : List Sl → M → Prop} (e : ρ = ρ') (h : WS R K E XP ρ' m t nx rt bk ct) : WS R K E XP ρ m t nx rt bk ct := by rw [e]; exact h
theorem wg_eq {ρ' : List Sl} {g : TG} {d : PyData} {k : List Sl → Prop} (e : ρ = ρ') (h : WG R K E XP ρ' m g d k) : WG R K E XP ρ m g d k := by rw [e]; exact h
theorem wt_eq {ρ' : List Sl} {t : TT} {k : Bool → M → Prop} (e : ρ = ρ') (h : WT R K E XP ρ' m t k) : WT R K E XP ρ m t k := by rw [e]; exact h
end
/-! isinstance by kinds -/
def isBoolD : PyData → Bool
  | .bool _ => true
  | _ => false
theorem isK_Bool (d : PyData) : isKD (kindD d) "bool" = isBoolD d := by cases d <;> first | rfl | (unfold kindD isKD isBoolD; decide)
def isIntD : PyData → Bool
  | .int _ => true
  | .bool _ => true
  | _ => false
theorem isK_Int (d : PyData) : isKD (kindD d) "int" = isIntD d := by cases d <;> first | rfl | (unfold kindD isKD isIntD; decide)
def isStrD : PyData → Bool
  | .str _ => true
  | _ => false
theorem isK_Str (d : PyData) : isKD (kindD d) "str" = isStrD d := by cases d <;> first | rfl | (unfold kindD isKD isStrD; decide)
def isTupD : PyData → Bool
  | .tuple _ => true
  | _ => false
theorem isK_Tup (d : PyData) : isKD (kindD d) "tuple" = isTupD d := by cases d <;> first | rfl | (unfold kindD isKD isTupD; decide)
def isLstD : PyData → Bool
  | .list _ => true
  | _ => false
theorem isK_Lst (d : PyData) : isKD (kindD d) "list" = isLstD d := by cases d <;> first | rfl | (unfold kindD isKD isLstD; decide)
section
variable {M : Type} {R : MR M} {K : PySem.W.Frag} {E : XK} {XP : Addr → M → Prop} {ρ : List Sl} {m : M} {k : Rk → M → Prop}
theorem cbP_isB {a : Rk} {d : PyData} (ha : asD a = some d) (hk : k (.d (.bool (isBoolD d))) m) : CbP R K E XP ρ m (rIsi K) [a, .v (.ty "bool")] k := cbP_isi ha (by decide) (by rw [isK_Bool]; exact hk)
theorem cbP_isI {a : Rk} {d : PyData} (ha : asD a = some d) (hk : k (.d (.bool (isIntD d))) m) : CbP R K E XP ρ m (rIsi K) [a, .v (.ty "int")] k := cbP_isi ha (by decide) (by rw [isK_Int]; exact hk)
theorem cbP_isS {a : Rk} {d : PyData} (ha : asD a = some d) (hk : k (.d (.bool (isStrD d))) m) : CbP R K E XP ρ m (rIsi K) [a, .v (.ty "str")] k := cbP_isi ha (by decide) (by rw [isK_Str]; exact hk)
theorem cbP_isT {a : Rk} {d : PyData} (ha : asD a = some d) (hk : k (.d (.bool (isTupD d))) m) : CbP R K E XP ρ m (rIsi K) [a, .v (.ty "tuple")] k := cbP_isi ha (by decide) (by rw [isK_Tup]; exact hk)
theorem cbP_isL {a : Rk} {d : PyData} (ha : asD a = some d) (hk : k (.d (.bool (isLstD d))) m) : CbP R K E XP ρ m (rIsi K) [a, .v (.ty "list")] k := cbP_isi ha (by decide) (by rw [isK_Lst]; exact hk)
end
def truR (r : Rk) : Option Bool := (asD r).bind truD
section
variable {M : Type} {R : MR M} {K : PySem.W.Frag} {E : XK} {XP : Addr → M → Prop} {ρ : List Sl} {m : M}
theorem wt_truR {te : TE} {k : Bool → M → Prop} (h : WE R K E XP ρ m te fun r m1 => ∃ b, truR r = some b ∧ k b m1) : WT R K E XP ρ m (tTru K te) k := wt_tru (by
  unfold WE at h ⊢
  intro F0 H0 B0 F H B σ D Q q
  exact h D Q fun v r m' F' H' B' ⟨b, e, hk⟩ => q v r m' F' H' B' (by
    unfold truR at e
    cases ha : asD r with
    | none => rw [ha] at e; cases e
    | some d => rw [ha] at e; exact ⟨d, b, ha, e, hk⟩))
end
/-! ## comprehensions by a function -/
theorem ifp {p A B : Prop} [Decidable p] (h : p → A) (g : ¬ p → B) : (decide p = true → A) ∧ (decide p = false → B) := ⟨fun e => h (of_decide_eq_true e), fun e => g (of_decide_eq_false e)⟩
theorem ifq {p A B : Prop} [Decidable p] (h : ¬ p → A) (g : p → B) : (decide p = false → A) ∧ (decide p = true → B) := ⟨fun e => h (of_decide_eq_false e), fun e => g (of_decide_eq_true e)⟩
theorem ifnp {p A B : Prop} [Decidable p] (h : ¬ p → A) (g : p → B) : ((!decide p) = true → A) ∧ ((!decide p) = false → B) := ⟨fun e => h (by simpa using e), fun e => g (by simpa using e)⟩
theorem ifnq {p A B : Prop} [Decidable p] (h : p → A) (g : ¬ p → B) : ((!decide p) = false → A) ∧ ((!decide p) = true → B) := ⟨fun e => h (by simpa using e), fun e => g (by simpa using e)⟩
theorem ifb {b : Bool} {A B : Prop} (h : b = true → A) (g : b = false → B) : (b = true → A) ∧ (b = false → B) := ⟨h, g⟩
theorem ifbq {b : Bool} {A B : Prop} (h : b = false → A) (g : b = true → B) : (b = false → A) ∧ (b = true → B) := ⟨h, g⟩
theorem ifnb {b : Bool} {A B : Prop} (h : b = false → A) (g : b = true → B) : ((!b) = true → A) ∧ ((!b) = false → B) := ⟨fun e => h (by simpa using e), fun e => g (by simpa using e)⟩
theorem ifnbq {b : Bool} {A B : Prop} (h : b = true → A) (g : b = false → B) : ((!b) = false → A) ∧ ((!b) = true → B) := ⟨fun e => h (by simpa using e), fun e => g (by simpa using e)⟩
section
variable {M : Type} {R : MR M} {K : PySem.W.Frag} {E : XK} {XP : Addr → M → Prop} {ρ : List Sl} {m : M} {k : Rk → M → Prop} {ta tb tc te : TE} {tr : TA}
theorem wt_yes {k : Bool → M → Prop} (hk : k true m) : WT R K E XP ρ m tYes k := by with_unfolding_all exact (fun D Q q => q true m _ _ _ hk D (.refl D.st.s))
theorem take_succ_app {α : Type} {xs : List α} {i : Nat} {x : α} (h : xs[i]? = some x) : xs.take (i + 1) = xs.take i ++ [x] := by
  rw [List.take_succ, h]; rfl
theorem WI.mono {wi : TI} {k k' : List PyData → M → Prop} (h : WI R K E XP ρ m wi k) (g : ∀ xs m, k xs m → k' xs m) : WI R K E XP ρ m wi k' := by with_unfolding_all exact (fun D Q q => h D Q fun J xs m' F' H' B' hk => q J xs m' F' H' B' (g xs m' hk))
theorem WT.mono {t : TT} {k k' : Bool → M → Prop} (h : WT R K E XP ρ m t k) (g : ∀ b m, k b m → k' b m) : WT R K E XP ρ m t k' := by with_unfolding_all exact (fun D Q q => h D Q fun b m' F' H' B' hk => q b m' F' H' B' (g b m' hk))
theorem WA.mono {t : TA} {k k' : List Rk → M → Prop} (h : WA R K E XP ρ m t k) (g : ∀ b m, k b m → k' b m) : WA R K E XP ρ m t k' := by with_unfolding_all exact (fun D Q q => h D Q fun vs b m' F' H' B' hk => q vs b m' F' H' B' (g b m' hk))
theorem WE.mono {t : TE} {k k' : Rk → M → Prop} (h : WE R K E XP ρ m t k) (g : ∀ b m, k b m → k' b m) : WE R K E XP ρ m t k' := by with_unfolding_all exact (fun D Q q => h D Q fun vs b m' F' H' B' hk => q vs b m' F' H' B' (g b m' hk))
theorem WG.mono {g : TG} {d : PyData} {k k' : List Sl → Prop} (h : WG R K E XP ρ m g d k) (i : ∀ r, k r → k' r) : WG R K E XP ρ m g d k' := by with_unfolding_all exact (fun D hd Q q => h D hd Q fun σ' ρ' hk => q σ' ρ' (i ρ' hk))
end
section
variable {M : Type} {R : MR M} {K : PySem.W.Frag} {E : XK} {XP : Addr → M → Prop} {ρ : List Sl} {m : M} {k : Rk → M → Prop} {ta tb tc te : TE} {tr : TA}
/-- [f(x) for x in xs if t(x)] -/
theorem we_lcF {wi : TI} {g : TG} {tt : TT} {vs : List Nat} {ρ0 : List Sl} (hsl : Wipes g vs) (e0 : wipeS ρ vs = ρ0) (h : WI R K E XP ρ m wi fun xs m1 => ∃ (f : PyData → PyData) (t : PyData → Bool), xs.length ≤ 90000 ∧
    (∀ x ∈ xs, WG R K E XP ρ0 m1 g x fun ρ1 => WT R K E XP ρ1 m1 tt fun b m2 => m2 = m1 ∧ b = t x ∧
      (b = true → WA R K E XP ρ1 m1 (tCons te tNil) fun rs m3 => m3 = m1 ∧ DLo rs = some [f x])) ∧
    k (.o ((xs.filter t).map f)) m1) : WE R K E XP ρ m (tLc wi g tt te vs) k :=
  we_lc hsl <| WI.mono h fun xs m1 ⟨f, t, hl, step, hk⟩ => ⟨fun i ys => ys = ((xs.take i).filter t).map f, rfl, fun i x ys hx (hI : ys = ((xs.take i).filter t).map f) => by
    have hm := List.mem_of_getElem? hx
    have hi := (List.getElem?_eq_some_iff.mp hx).1
    have et := take_succ_app hx
    rw [e0]
    refine WG.mono (step x hm) fun ρ1 hk2 => WT.mono hk2 fun b m2 ⟨z1, z2, z3⟩ => ⟨z1, fun hb => WA.mono (z3 hb) fun rs m3 ⟨y1, y2⟩ => ⟨y1, f x, y2, ?_, ?_⟩, fun hb => ?_⟩
    · rw [hI, List.length_map]
      have := List.length_filter_le t (xs.take i)
      rw [List.length_take] at this
      omega
    · show ys ++ [f x] = ((xs.take (i + 1)).filter t).map f
      rw [et, List.filter_append, List.map_append, hI, List.filter_cons, ← z2, hb]; rfl
    · show ys = ((xs.take (i + 1)).filter t).map f
      rw [et, List.filter_append, List.map_append, hI, List.filter_cons, ← z2, hb]; simp, fun ys (hI : ys = ((xs.take xs.length).filter t).map f) => by
    have hI' : ys = ((xs.take xs.length).filter t).map f := hI
    rw [List.take_length] at hI'
    rw [hI']; exact hk⟩
theorem we_lcM {wi : TI} {g : TG} {vs : List Nat} {ρ0 : List Sl} (hsl : Wipes g vs) (e0 : wipeS ρ vs = ρ0) (h : WI R K E XP ρ m wi fun xs m1 => ∃ (f : PyData → PyData), xs.length ≤ 90000 ∧
    (∀ x ∈ xs, WG R K E XP ρ0 m1 g x fun ρ1 => WA R K E XP ρ1 m1 (tCons te tNil) fun rs m3 => m3 = m1 ∧ DLo rs = some [f x]) ∧
    k (.o (xs.map f)) m1) : WE R K E XP ρ m (tLc wi g tYes te vs) k :=
  we_lcF hsl e0 <| WI.mono h fun xs m1 ⟨f, hl, step, hk⟩ => ⟨f, fun _ => true, hl, fun x hx => WG.mono (step x hx) fun ρ1 hk2 => wt_yes ⟨rfl, rfl, fun _ => hk2⟩, by
    have : xs.filter (fun _ => true) = xs := List.filter_eq_self.mpr fun _ _ => rfl
    rw [this]; exact hk⟩
end
/-! ## a dict of the module; the call of what a local name holds -/
def rKd (K : PySem.W.Frag) (d : Addr) : R2 := fun x y H Q => ∃ (z : Str) (u0 : Value) (v0 : V), x = V.ref d ∧ y = V.str z ∧ PySem.W.nsIn K d z = some (some u0) ∧ L2.RelV v0 u0 ∧ Q v0 H
theorem ix_kd {X : Cx} {d : Addr} {es : Array DictEntry} {n : Nat} (D : KDict X.K X.w d es n) : IxR X (rKd X.K d) := fun value slice pins s σ H x y v u Q I rx ry h hs => by
  have h0 := h
  obtain ⟨z, u0, v0, rfl, rfl, e, r, q⟩ := h
  have ho := I.kIn _ _ D.at_
  cases (show v = .ref d from rx)
  exact tail_any ⟨_, ho, rfl⟩ F.slot_dict_getitem.lookup (L2.op_item_kd D pins s σ H _ _ _ _ Q I rx ry h0) hs
theorem ixK_kd {K : PySem.W.Frag} {X : Cx} {d : Addr} {es : Array DictEntry} {n : Nat} (h : X.K = K) (D : KDict K X.w d es n) : IxR X (rKd K d) := by subst h; exact ix_kd D
section
variable {M : Type} {R : MR M} {K : PySem.W.Frag} {E : XK} {XP : Addr → M → Prop} {ρ : List Sl} {m : M} {k : Rk → M → Prop} {ta tb tc te : TE} {tr : TA}
theorem opP_kd {d f : Addr} {z : Str} (h : PySem.W.nsIn K d z = some (some (.ref f))) (hk : k (.v (.ref f)) m) : OpP R K E XP ρ m (rKd K d) (.v (.ref d)) (.d (.str z)) k := by
  unfold OpP
  intro F0 H0 B0 F H B σ Hs x y D ra rb Q q
  cases (show x = .ref d from ra)
  cases dq_str rb
  exact ⟨z, _, .ref f, rfl, rfl, h, rfl, q _ _ m _ _ _ hk D (.refl D.st.s) rfl⟩
theorem we_callL {pre : List PyData → Prop} {post : List PyData → Rk → Prop} {i : Nat} {f : Addr} {E' : XK} (hi : ρ[i]? = some (.v (.ref f))) (h : WA R K E XP ρ m tr fun rs m1 => ∃ ds, DLo rs = some ds ∧ pre ds ∧ ∀ r, post ds r → k r m1) : WE R K E XP ρ m (tCallL i f (spP K pre post) [] E' tr) k := by
  have h2 : WE R K E XP ρ m (tCall (spP K pre post) [] E' tr) k := we_callP (dvs := []) (WA.mono h fun rs m1 ⟨ds, e, h1, h2⟩ => ⟨ds, e, by simpa using h1, by simpa using h2⟩)
  unfold WE at h2 ⊢
  intro F0 H0 B0 F H B σ D Q q
  obtain ⟨w, h1, h3⟩ := D.s i _ hi
  cases (show w = some (.ref f) from h3)
  exact ⟨h1, h2 D Q q⟩
end
/-- as okP, the derivation chosen by the arguments -/
theorem okPd {P : Program} {w : World} {K : PySem.W.Frag} {mg : Str → Option Value} {base : Heap} {x qual : Str} {st : Stmt} {f : Addr} {fd : FuncData} {N ps : List Str} {k : Nat} {pre : List PyData → Prop} {post : List PyData → Rk → Prop}
    (F : Fun K x qual st f fd) (S : FnScope N ps (defScope st)) (n : Nat) (hn : N.length = ps.length + n) (len : ∀ ds, pre ds → ds.length = ps.length)
    (hb : ∀ (cdv : Value) (A : Around) (outer : List Env) (s : Shared) (H : Hp) (E : XK), Room k (A.deeper (envOfC qual (defScope st) s.heap.objs.size f cdv)) →
      ∀ ds, pre ds → ∃ t, PSs (cxOf CX0 P w K mg base N qual (defScope st) f cdv A outer s H E).nox (defBody st) t ∧
        WS noM K E (fun _ _ => False) (ds.map Sl.d ++ List.replicate n Sl.u) () t (fun _ _ => post ds (.d .none)) (fun r _ => post ds r ∧ isDo r) (fun _ _ => False) (fun _ _ => False)) : FnOk P w K mg base CX0 (k + 1) f fd ps (spP K pre post) :=
  F.ok S (fun vs H Q E ⟨ds, B, hd, _, hp, _⟩ => (dqa_len hd).trans (len ds hp)) fun cdv A outer s H vs Q E hr h => by
    obtain ⟨ds, B, hd, hB, hp, q⟩ := h
    obtain ⟨t, h1, h2⟩ := hb cdv A outer s H E hr ds hp
    refine ⟨t, h1, run_P (pre := fun es => es = ds) (post := post) ⟨ds, B, hd, hB, rfl, q⟩ n ?_ fun es he => by subst he; exact h2⟩
    rw [dqa_len hd, len ds hp, hn]
    omega
def rInT (K : PySem.W.Frag) : R2 := fun x y H Q => ∃ d ds, Dp K H x d ∧ Dp K H y (.tuple ds) ∧ SeqAt.shaped d = true ∧ SeqAt.shaped (.tuple ds) = true ∧ Q (.bl (ds.any fun z => PyData.eqv z d)) H
def rNotInT (K : PySem.W.Frag) : R2 := fun x y H Q => ∃ d ds, Dp K H x d ∧ Dp K H y (.tuple ds) ∧ SeqAt.shaped d = true ∧ SeqAt.shaped (.tuple ds) = true ∧ Q (.bl (!ds.any fun z => PyData.eqv z d)) H
theorem sh_parts {ds : List PyData} (h : SeqAt.shaped (.tuple ds) = true) : PyData.canLayAll0 ds = true := by
  have : (PyData.tuple ds).canLay0 = true := SeqAt.canLay_of_shaped h
  rwa [PyData.canLay0] at this
theorem sh_depth {d : PyData} (h : SeqAt.shaped d = true) : d.depth ≤ 64 := by
  unfold SeqAt.shaped at h
  rw [Bool.and_eq_true] at h
  exact of_decide_eq_true h.2
theorem opK_inT {K : PySem.W.Frag} {X : Cx} (h : X.K = K) (hu : X.A.units + 65 < cLine) : OpR X (compareOp .In) (rInT K) := by
  subst h
  intro pins s σ H x y v u Q I rx ry ⟨d, ds, hd, he, sd, se, q⟩
  obtain ⟨as, r1⟩ := Dp.reads I d x v hd rx
  obtain ⟨bs, r2⟩ := Dp.reads I (.tuple ds) y u he ry
  have := sh_depth sd
  exact SeqAt.in_tuple_reads r2 r1 (sh_parts se) (SeqAt.canLay_of_shaped sd) (by omega) ⟨.bl _, _, I, rfl, q⟩
theorem opK_notInT {K : PySem.W.Frag} {X : Cx} (h : X.K = K) (hu : X.A.units + 65 < cLine) : OpR X (compareOp .NotIn) (rNotInT K) := by
  subst h
  intro pins s σ H x y v u Q I rx ry ⟨d, ds, hd, he, sd, se, q⟩
  obtain ⟨as, r1⟩ := Dp.reads I d x v hd rx
  obtain ⟨bs, r2⟩ := Dp.reads I (.tuple ds) y u he ry
  have := sh_depth sd
  exact SeqAt.notIn_tuple_reads r2 r1 (sh_parts se) (SeqAt.canLay_of_shaped sd) (by omega) ⟨.bl _, _, I, rfl, q⟩
section
variable {M : Type} {R : MR M} {K : PySem.W.Frag} {E : XK} {XP : Addr → M → Prop} {ρ : List Sl} {m : M} {k : Rk → M → Prop} {ta tb tc te : TE} {tr : TA}
theorem opP_inT {a b : Rk} {d : PyData} {ds : List PyData} (ha : asD a = some d) (hb : asD b = some (.tuple ds)) (h1 : SeqAt.shaped d = true) (h2 : SeqAt.shaped (.tuple ds) = true) (hk : k (.d (.bool (ds.any fun z => PyData.eqv z d))) m) : OpP R K E XP ρ m (rInT K) a b k :=
  opP_sc (v := .bl _) rfl (fun s ra rb Q q => ⟨d, ds, rel_asD s ra ha, rel_asD s rb hb, h1, h2, q⟩) hk
theorem opP_notInT {a b : Rk} {d : PyData} {ds : List PyData} (ha : asD a = some d) (hb : asD b = some (.tuple ds)) (h1 : SeqAt.shaped d = true) (h2 : SeqAt.shaped (.tuple ds) = true) (hk : k (.d (.bool (!ds.any fun z => PyData.eqv z d))) m) : OpP R K E XP ρ m (rNotInT K) a b k :=
  opP_sc (v := .bl _) rfl (fun s ra rb Q q => ⟨d, ds, rel_asD s ra ha, rel_asD s rb hb, h1, h2, q⟩) hk
end
/-- data whose texts and tuples are not too long, of at most this depth -/
def okx : Nat → PyData → Bool
  | _, .none => true
  | _, .bool _ => true
  | _, .int _ => true
  | _, .str z => PyData.strOk z && decide (z.length ≤ 100000)
  | n + 1, .list xs => decide (xs.length ≤ 90000) && xs.all (okx n)
  | n + 1, .tuple xs => decide (xs.length ≤ 90000) && xs.all (okx n)
  | _, _ => false
theorem okx_flat : ∀ {n : Nat} {d : PyData}, okx n d = true → Flat n d
  | n, .none, _ => flat_non n
  | n, .bool b, _ => flat_bl n b
  | n, .int i, _ => flat_int n i
  | n, .str z, h => flat_str n z (by unfold okx at h; rw [Bool.and_eq_true] at h; exact h.1)
  | n + 1, .list xs, h => by
    unfold okx at h
    rw [Bool.and_eq_true, List.all_eq_true] at h
    exact flat_list fun d hd => okx_flat (h.2 d hd)
  | n + 1, .tuple xs, h => by
    unfold okx at h
    rw [Bool.and_eq_true, List.all_eq_true] at h
    exact flat_tup fun d hd => okx_flat (h.2 d hd)
  | 0, .list _, h => by unfold okx at h; cases h
  | 0, .tuple _, h => by unfold okx at h; cases h
  | 0, .dict _, h => by unfold okx at h; cases h
  | _ + 1, .dict _, h => by unfold okx at h; cases h
theorem okx_sh {n : Nat} {d : PyData} (h : okx n d = true) (hn : n ≤ 64 := by decide) : SeqAt.shaped d = true := (okx_flat h).sh hn
theorem okx_mono : ∀ {n m : Nat} {d : PyData}, n ≤ m → okx n d = true → okx m d = true
  | _, m, .none, _, _ => by cases m <;> rfl
  | _, m, .bool _, _, _ => by cases m <;> rfl
  | _, m, .int _, _, _ => by cases m <;> rfl
  | n, m, .str _, _, h => by unfold okx at h ⊢; exact h
  | n + 1, m + 1, .list xs, hm, h => by
    unfold okx at h ⊢
    rw [Bool.and_eq_true, List.all_eq_true] at h ⊢
    exact ⟨h.1, fun d hd => okx_mono (Nat.le_of_succ_le_succ hm) (h.2 d hd)⟩
  | n + 1, m + 1, .tuple xs, hm, h => by
    unfold okx at h ⊢
    rw [Bool.and_eq_true, List.all_eq_true] at h ⊢
    exact ⟨h.1, fun d hd => okx_mono (Nat.le_of_succ_le_succ hm) (h.2 d hd)⟩
  | 0, _, .list _, _, h => by unfold okx at h; cases h
  | 0, _, .tuple _, _, h => by unfold okx at h; cases h
  | 0, _, .dict _, _, h => by unfold okx at h; cases h
  | _ + 1, _, .dict _, _, h => by unfold okx at h; cases h
  | _ + 1, 0, .list _, hm, _ => absurd hm (by omega)
  | _ + 1, 0, .tuple _, hm, _ => absurd hm (by omega)
theorem okx_tup {n : Nat} {xs : List PyData} {x : PyData} (h : okx n (.tuple xs) = true) (hx : x ∈ xs) : okx n x = true := by
  cases n with
  | zero => unfold okx at h; cases h
  | succ n =>
    unfold okx at h
    rw [Bool.and_eq_true, List.all_eq_true] at h
    exact okx_mono (by omega) (h.2 x hx)
theorem okx_lst {n : Nat} {xs : List PyData} {x : PyData} (h : okx n (.list xs) = true) (hx : x ∈ xs) : okx n x = true := by
  cases n with
  | zero => unfold okx at h; cases h
  | succ n =>
    unfold okx at h
    rw [Bool.and_eq_true, List.all_eq_true] at h
    exact okx_mono (by omega) (h.2 x hx)
theorem okx_len {n : Nat} {xs : List PyData} (h : okx n (.tuple xs) = true) : xs.length ≤ 90000 := by
  cases n with
  | zero => unfold okx at h; cases h
  | succ n =>
    unfold okx at h
    rw [Bool.and_eq_true] at h
    exact of_decide_eq_true h.1
theorem okx_str {n : Nat} {z : Str} (h : okx n (.str z) = true) : z.length ≤ 100000 ∧ PyData.strOk z = true := by
  unfold okx at h
  rw [Bool.and_eq_true] at h
  exact ⟨of_decide_eq_true h.2, h.1⟩
theorem okx_tup_of {n : Nat} {xs : List PyData} (hl : xs.length ≤ 90000) (h : ∀ x ∈ xs, okx n x = true) : okx (n + 1) (.tuple xs) = true := by
  unfold okx
  rw [Bool.and_eq_true, List.all_eq_true]
  exact ⟨decide_eq_true hl, h⟩
theorem okx_lst_of {n : Nat} {xs : List PyData} (hl : xs.length ≤ 90000) (h : ∀ x ∈ xs, okx n x = true) : okx (n + 1) (.list xs) = true := by
  unfold okx
  rw [Bool.and_eq_true, List.all_eq_true]
  exact ⟨decide_eq_true hl, h⟩
/-! calls of defs of data, by the number of arguments -/
section
variable {M : Type} {R : MR M} {K : PySem.W.Frag} {E : XK} {XP : Addr → M → Prop} {ρ : List Sl} {m : M} {k : Rk → M → Prop} {ta tb tc te : TE} {tr : TA} {E' : XK}
theorem we_call1 {p : PyData → Prop} {f : PyData → PyData} (h : WA R K E XP ρ m tr fun rs m1 => ∃ x, DLo rs = some [x] ∧ p x ∧ k (.d (f x)) m1) : WE R K E XP ρ m (tCall (spP K (P1 p) (R1 f)) [] E' tr) k :=
  we_callP (dvs := []) (WA.mono h fun rs m1 ⟨x, e, h1, h2⟩ => ⟨[x], e, ⟨x, rfl, h1⟩, fun r hr => by rw [hr x rfl]; exact h2⟩)
theorem we_call2 {p : PyData → PyData → Prop} {f : PyData → PyData → PyData} (h : WA R K E XP ρ m tr fun rs m1 => ∃ x y, DLo rs = some [x, y] ∧ p x y ∧ k (.d (f x y)) m1) : WE R K E XP ρ m (tCall (spP K (P2 p) (R2' f)) [] E' tr) k :=
  we_callP (dvs := []) (WA.mono h fun rs m1 ⟨x, y, e, h1, h2⟩ => ⟨[x, y], e, ⟨x, y, rfl, h1⟩, fun r hr => by rw [hr x y rfl]; exact h2⟩)
theorem we_call3 {p : PyData → PyData → PyData → Prop} {f : PyData → PyData → PyData → PyData} (h : WA R K E XP ρ m tr fun rs m1 => ∃ x y z, DLo rs = some [x, y, z] ∧ p x y z ∧ k (.d (f x y z)) m1) : WE R K E XP ρ m (tCall (spP K (P3 p) (R3 f)) [] E' tr) k :=
  we_callP (dvs := []) (WA.mono h fun rs m1 ⟨x, y, z, e, h1, h2⟩ => ⟨[x, y, z], e, ⟨x, y, z, rfl, h1⟩, fun r hr => by rw [hr x y z rfl]; exact h2⟩)
theorem we_callL1 {p : PyData → Prop} {f : PyData → PyData} {i : Nat} {g : Addr} (hi : ρ[i]? = some (.v (.ref g))) (h : WA R K E XP ρ m tr fun rs m1 => ∃ x, DLo rs = some [x] ∧ p x ∧ k (.d (f x)) m1) : WE R K E XP ρ m (tCallL i g (spP K (P1 p) (R1 f)) [] E' tr) k :=
  we_callL hi (WA.mono h fun rs m1 ⟨x, e, h1, h2⟩ => ⟨[x], e, ⟨x, rfl, h1⟩, fun r hr => by rw [hr x rfl]; exact h2⟩)
end
section
variable {M : Type} {R : MR M} {K : PySem.W.Frag} {E : XK} {XP : Addr → M → Prop} {ρ : List Sl} {m : M}
theorem isWS {t nx rt bk ct} (h : WS R K E XP ρ m t nx rt bk ct) : WS R K E XP ρ m t nx rt bk ct := h
theorem isWE {t k} (h : WE R K E XP ρ m t k) : WE R K E XP ρ m t k := h
theorem isWA {t k} (h : WA R K E XP ρ m t k) : WA R K E XP ρ m t k := h
theorem isWT {t k} (h : WT R K E XP ρ m t k) : WT R K E XP ρ m t k := h
theorem isWI {t k} (h : WI R K E XP ρ m t k) : WI R K E XP ρ m t k := h
theorem isWO {t k} (h : WO R K E XP ρ m t k) : WO R K E XP ρ m t k := h
theorem isWJ {t o k} (h : WJ R K E XP ρ m t o k) : WJ R K E XP ρ m t o k := h
theorem isWG {t d k} (h : WG R K E XP ρ m t d k) : WG R K E XP ρ m t d k := h
theorem isWGs {t d k} (h : WGs R K E XP ρ m t d k) : WGs R K E XP ρ m t d k := h
theorem isOp {r a b k} (h : OpP R K E XP ρ m r a b k) : OpP R K E XP ρ m r a b k := h
theorem isCb {r a k} (h : CbP R K E XP ρ m r a k) : CbP R K E XP ρ m r a k := h
theorem isSlp {r a l u k} (h : SlP R K E XP ρ m r a l u k) : SlP R K E XP ρ m r a l u k := h
end
theorem signs_map {α : Type} (z : Str) (f : PyData → α) : (signs z).map f = z.cps.toList.map fun c => f (.str ⟨#[c]⟩) := by
  unfold signs
  rw [List.map_map]
  rfl
theorem sgn_len (z : Str) : (signs z).length = z.length := by
  unfold signs
  rw [List.length_map]
  show z.cps.toList.length = _
  rw [Array.length_toList]
  rfl
theorem signs_mem {z : Str} {x : PyData} (h : x ∈ signs z) : ∃ c, x = .str ⟨#[c]⟩ ∧ c ∈ z.cps.toList := by
  unfold signs at h
  obtain ⟨c, hc, e⟩ := List.mem_map.mp h
  exact ⟨c, e.symm, hc⟩
/-- the one sign of a text -/
def chOf : PyData → Nat
  | .str z => z.cps.toList.getD 0 0
  | _ => 0
theorem chOf_one (c : Nat) : chOf (.str ⟨#[c]⟩) = c := rfl
theorem all_map_id {α : Type} (xs : List α) (g : α → Bool) : (xs.map g).all id = xs.all g := by
  rw [List.all_map]; rfl
/-! results that keep a promise -/
def Q1 (g : PyData → PyData → Prop) : List PyData → Rk → Prop := fun ds r => ∀ x, ds = [x] → ∃ y, r = .d y ∧ g x y
def Q2 (g : PyData → PyData → PyData → Prop) : List PyData → Rk → Prop := fun ds r => ∀ x y, ds = [x, y] → ∃ z, r = .d z ∧ g x y z
def Q3 (g : PyData → PyData → PyData → PyData → Prop) : List PyData → Rk → Prop := fun ds r => ∀ x y z, ds = [x, y, z] → ∃ u, r = .d u ∧ g x y z u
/-- the result is a new list -/
def L1 (g : PyData → List PyData → Prop) : List PyData → Rk → Prop := fun ds r => ∀ x, ds = [x] → ∃ y, r = .o y ∧ g x y
def L2' (g : PyData → PyData → List PyData → Prop) : List PyData → Rk → Prop := fun ds r => ∀ x y, ds = [x, y] → ∃ z, r = .o z ∧ g x y z
def L3 (g : PyData → PyData → PyData → List PyData → Prop) : List PyData → Rk → Prop := fun ds r => ∀ x y z, ds = [x, y, z] → ∃ u, r = .o u ∧ g x y z u
section
variable {M : Type} {R : MR M} {K : PySem.W.Frag} {E : XK} {XP : Addr → M → Prop} {ρ : List Sl} {m : M} {k : Rk → M → Prop} {ta tb tc te : TE} {tr : TA} {E' : XK}
theorem q1d {g : PyData → PyData → Prop} {x y : PyData} (h : g x y) : Q1 g [x] (.d y) ∧ isDo (.d y) := ⟨fun z e => by cases e; exact ⟨y, rfl, h⟩, True.intro⟩
theorem q2d {g : PyData → PyData → PyData → Prop} {x y z : PyData} (h : g x y z) : Q2 g [x, y] (.d z) ∧ isDo (.d z) := ⟨fun _ _ e => by cases e; exact ⟨z, rfl, h⟩, True.intro⟩
theorem q3d {g : PyData → PyData → PyData → PyData → Prop} {x y z u : PyData} (h : g x y z u) : Q3 g [x, y, z] (.d u) ∧ isDo (.d u) := ⟨fun _ _ _ e => by cases e; exact ⟨u, rfl, h⟩, True.intro⟩
theorem l1o {g : PyData → List PyData → Prop} {x : PyData} {y : List PyData} (h : g x y) : L1 g [x] (.o y) ∧ isDo (.o y) := ⟨fun z e => by cases e; exact ⟨y, rfl, h⟩, True.intro⟩
theorem l2o {g : PyData → PyData → List PyData → Prop} {x y : PyData} {z : List PyData} (h : g x y z) : L2' g [x, y] (.o z) ∧ isDo (.o z) := ⟨fun _ _ e => by cases e; exact ⟨z, rfl, h⟩, True.intro⟩
theorem l3o {g : PyData → PyData → PyData → List PyData → Prop} {x y z : PyData} {u : List PyData} (h : g x y z u) : L3 g [x, y, z] (.o u) ∧ isDo (.o u) := ⟨fun _ _ _ e => by cases e; exact ⟨u, rfl, h⟩, True.intro⟩
theorem we_callQ1 {p : PyData → Prop} {g : PyData → PyData → Prop} (h : WA R K E XP ρ m tr fun rs m1 => ∃ x, DLo rs = some [x] ∧ p x ∧ ∀ y, g x y → k (.d y) m1) : WE R K E XP ρ m (tCall (spP K (P1 p) (Q1 g)) [] E' tr) k :=
  we_callP (dvs := []) (WA.mono h fun rs m1 ⟨x, e, h1, h2⟩ => ⟨[x], e, ⟨x, rfl, h1⟩, fun r hr => by obtain ⟨y, rfl, hg⟩ := hr x rfl; exact h2 y hg⟩)
theorem we_callQ2 {p : PyData → PyData → Prop} {g : PyData → PyData → PyData → Prop} (h : WA R K E XP ρ m tr fun rs m1 => ∃ x y, DLo rs = some [x, y] ∧ p x y ∧ ∀ z, g x y z → k (.d z) m1) : WE R K E XP ρ m (tCall (spP K (P2 p) (Q2 g)) [] E' tr) k :=
  we_callP (dvs := []) (WA.mono h fun rs m1 ⟨x, y, e, h1, h2⟩ => ⟨[x, y], e, ⟨x, y, rfl, h1⟩, fun r hr => by obtain ⟨z, rfl, hg⟩ := hr x y rfl; exact h2 z hg⟩)
theorem we_callQ3 {p : PyData → PyData → PyData → Prop} {g : PyData → PyData → PyData → PyData → Prop} (h : WA R K E XP ρ m tr fun rs m1 => ∃ x y z, DLo rs = some [x, y, z] ∧ p x y z ∧ ∀ u, g x y z u → k (.d u) m1) : WE R K E XP ρ m (tCall (spP K (P3 p) (Q3 g)) [] E' tr) k :=
  we_callP (dvs := []) (WA.mono h fun rs m1 ⟨x, y, z, e, h1, h2⟩ => ⟨[x, y, z], e, ⟨x, y, z, rfl, h1⟩, fun r hr => by obtain ⟨u, rfl, hg⟩ := hr x y z rfl; exact h2 u hg⟩)
theorem we_callL1o {p : PyData → Prop} {g : PyData → List PyData → Prop} (h : WA R K E XP ρ m tr fun rs m1 => ∃ x, DLo rs = some [x] ∧ p x ∧ ∀ y, g x y → k (.o y) m1) : WE R K E XP ρ m (tCall (spP K (P1 p) (L1 g)) [] E' tr) k :=
  we_callP (dvs := []) (WA.mono h fun rs m1 ⟨x, e, h1, h2⟩ => ⟨[x], e, ⟨x, rfl, h1⟩, fun r hr => by obtain ⟨y, rfl, hg⟩ := hr x rfl; exact h2 y hg⟩)
theorem we_callL2o {p : PyData → PyData → Prop} {g : PyData → PyData → List PyData → Prop} (h : WA R K E XP ρ m tr fun rs m1 => ∃ x y, DLo rs = some [x, y] ∧ p x y ∧ ∀ z, g x y z → k (.o z) m1) : WE R K E XP ρ m (tCall (spP K (P2 p) (L2' g)) [] E' tr) k :=
  we_callP (dvs := []) (WA.mono h fun rs m1 ⟨x, y, e, h1, h2⟩ => ⟨[x, y], e, ⟨x, y, rfl, h1⟩, fun r hr => by obtain ⟨z, rfl, hg⟩ := hr x y rfl; exact h2 z hg⟩)
theorem we_callL3o {p : PyData → PyData → PyData → Prop} {g : PyData → PyData → PyData → List PyData → Prop} (h : WA R K E XP ρ m tr fun rs m1 => ∃ x y z, DLo rs = some [x, y, z] ∧ p x y z ∧ ∀ u, g x y z u → k (.o u) m1) : WE R K E XP ρ m (tCall (spP K (P3 p) (L3 g)) [] E' tr) k :=
  we_callP (dvs := []) (WA.mono h fun rs m1 ⟨x, y, z, e, h1, h2⟩ => ⟨[x, y, z], e, ⟨x, y, z, rfl, h1⟩, fun r hr => by obtain ⟨u, rfl, hg⟩ := hr x y z rfl; exact h2 u hg⟩)
end
theorem nums_mem {lo : Int} {n : Nat} {x : PyData} (h : x ∈ nums lo n) : ∃ j : Nat, j < n ∧ x = .int (lo + (j : Int)) := by
  unfold nums at h
  obtain ⟨j, hj, e⟩ := List.mem_map.mp h
  exact ⟨j, List.mem_range.mp hj, e.symm⟩
theorem nums_map {α : Type} {lo : Int} {n : Nat} (f : PyData → α) : (nums lo n).map f = (List.range n).map fun j : Nat => f (.int (lo + (j : Int))) := by
  unfold nums
  rw [List.map_map]
  rfl
theorem sgn_joinL : ∀ cs : List Nat, TL.joinL [] (cs.map fun c => [c]) = cs
  | [] => rfl
  | [c] => rfl
  | c :: d :: r => by
    show [c] ++ ([] ++ TL.joinL [] ((d :: r).map fun c => [c])) = _
    rw [sgn_joinL (d :: r)]
    rfl
theorem sgn_join (cs : List Nat) : Txt.join ("" : Str) (cs.map fun c => (⟨#[c]⟩ : Str)) = ⟨cs.toArray⟩ := by
  have h := SX.join_S [] (cs.map fun c => [c])
  rw [sgn_joinL, List.map_map] at h
  have e : ("" : Str) = SX.S [] := by decide +kernel
  rw [e]
  exact h
theorem sgn_sum (cs : List Nat) : ((cs.map fun c => (⟨#[c]⟩ : Str)).map (·.length)).sum = cs.length := by
  induction cs with
  | nil => rfl
  | cons c cs ih => rw [List.map_cons, List.map_cons, List.sum_cons, ih, List.length_cons]; show 1 + _ = _; omega
section
variable {M : Type} {R : MR M} {K : PySem.W.Frag} {E : XK} {XP : Addr → M → Prop} {ρ : List Sl} {m : M} {k : Rk → M → Prop}
theorem opP_pow {i j : Int} (hc : CPow i j) (hk : k (.d (.int (i ^ j.toNat))) m) : OpP R K E XP ρ m (rI CPow fun i j => .int (i ^ j.toNat)) (.d (.int i)) (.d (.int j)) k := opP_ic (C := CPow) (g := fun i j => .int (i ^ j.toNat)) hc hk
end
theorem log_small {i : Int} (h : i.natAbs < 2 ^ 1900) : i.natAbs.log2 < 1920 := by
  by_cases h0 : i.natAbs = 0
  · rw [h0]; decide
  · have := (Nat.log2_lt h0).mpr h
    omega
theorem signs_at {z : Str} {i c : Nat} (hx : (signs z)[i]? = some (.str ⟨#[c]⟩)) : z.cps.toList[i]? = some c := by
  unfold signs at hx
  rw [List.getElem?_map] at hx
  cases h : z.cps.toList[i]? with
  | none => rw [h] at hx; cases hx
  | some d => rw [h] at hx; cases hx; rfl
/-! a text times a number -/
def repS (z : Str) (n : Nat) : Str := ⟨List.foldl (fun x1 x2 => x1 ++ x2) #[] (List.replicate n z.cps)⟩
theorem fold_size {c : Array Nat} : ∀ (n : Nat) (a : Array Nat), (List.foldl (fun x1 x2 => x1 ++ x2) a (List.replicate n c)).size = a.size + n * c.size
  | 0, a => by simp
  | n + 1, a => by
    rw [List.replicate_succ, List.foldl_cons, fold_size n, Array.size_append, Nat.succ_mul]
    omega
theorem repS_len (z : Str) (n : Nat) : (repS z n).length = n * z.length := by
  have h := fold_size (c := z.cps) n #[]
  rw [show (#[] : Array Nat).size = 0 from rfl, Nat.zero_add] at h
  exact h
def rRepS : R2 := fun x y H Q => ∃ z n, x = .str z ∧ y = .int n ∧ 2 ≤ n ∧ n ≤ 100000 ∧ 1 ≤ z.length ∧ z.length ≤ 100 ∧ Q (.str (repS z n.toNat)) H
theorem op_repS {X : Cx} : OpR X (binaryOp .Mult) rRepS := by
  intro pins s σ H x y v u Q I rx ry ⟨z, n, ex, ey, h1, h2, h3, h4, q⟩
  subst ex ey
  obtain ⟨t, rfl⟩ := rx
  obtain ⟨t', rfl⟩ := ry
  have hc : (n == 1 || z.length == 0) = false := by
    rw [Bool.or_eq_false_iff, beq_eq_false_iff_ne, beq_eq_false_iff_ne]
    omega
  refine P.mul_str (by rw [Bool.or_eq_false_iff, decide_eq_false_iff_not, decide_eq_false_iff_not]; omega) (fun _ _ => ?_) (fun _ _ => ?_) ?_
  · have : (100 : Int) ≤ (2 ^ 63 - 1) / n := by
      rw [Int.le_ediv_iff_mul_le (by omega)]
      omega
    omega
  · have : z.length * n.toNat ≤ 100 * 100000 := Nat.mul_le_mul h4 (by omega)
    unfold Builtin.Str.tooLong
    rw [decide_eq_false_iff_not, sizeLine_eq]
    omega
  · rw [if_neg (by omega), if_neg (by rw [hc]; exact Bool.false_ne_true)]
    simp only [Made.post]
    refine ⟨?_, .str (repS z n.toNat), H, I.tok _, ⟨_, rfl⟩, q⟩
    show (repS z n.toNat).length ≤ _
    rw [repS_len, sizeLine_eq]
    have : n.toNat * z.length ≤ 100000 * 100 := Nat.mul_le_mul (by omega) h4
    omega
section
variable {M : Type} {R : MR M} {K : PySem.W.Frag} {E : XK} {XP : Addr → M → Prop} {ρ : List Sl} {m : M} {k : Rk → M → Prop}
theorem opP_repS {z : Str} {n : Int} (hc : 2 ≤ n ∧ n ≤ 100000 ∧ 1 ≤ z.length ∧ z.length ≤ 100) (hk : k (.d (.str (repS z n.toNat))) m) : OpP R K E XP ρ m rRepS (.d (.str z)) (.d (.int n)) k :=
  opP_sc (v := .str _) rfl (fun _ ra rb Q q => ⟨z, n, dq_str ra, dq_int rb, hc.1, hc.2.1, hc.2.2.1, hc.2.2.2, q⟩) hk
end
/-! ## defs that may raise -/
def tLeave (C : Addr) (E : XK) : TS := fun _ _ H => E (.ref C) none H
theorem ps_leave {X : Cx} {E : XK} {e : Expr} {C : Addr} {pos : Pos} (hc : X.calm = true) (tk : Takes X (fun cls d _ H => E cls d H)) (he : PMk X e (fun _ H Q => Q (.ref C) none H)) : PS X (.Raise (some e) none pos) (tLeave C E) := ps_raise hc tk he
theorem ws_leave {M : Type} {R : MR M} {K : PySem.W.Frag} {E : XK} {XP : Addr → M → Prop} {ρ : List Sl} {m : M} {nx bk ct : List Sl → M → Prop} {rt : Rk → M → Prop} {C : Addr} (h : XP C m) : WS R K E XP ρ m (tLeave C E) nx rt bk ct := by
  unfold WS
  intro F0 H0 B0 F H B σ D d _ _ _ _
  exact d.x C m _ _ _ h d.st d.r
def spX (K : PySem.W.Frag) (pre : List PyData → Prop) (post : List PyData → Rk → Prop) (bad : List PyData → Addr → Prop) : Sp := fun vs H Q E => ∃ ds B, DqAll K B vs ds ∧ Same B H ∧ pre ds ∧
  (∀ v r H' B', post ds r → Same H H' → Same B B' → Same B' H' → (∀ x, H x ≠ none → B x = none → B' x = none) → RelP K H H' B' v r → Q v H') ∧ ∀ C H', bad ds C → Same H H' → E (.ref C) none H'
theorem run_X {K : PySem.W.Frag} {E : XK} {pre : List PyData → Prop} {post : List PyData → Rk → Prop} {bad : List PyData → Addr → Prop} {vs : List V} {H : Hp} {Q : VK} {N : List Str} {ts : TS} (h : spX K pre post bad vs H Q E) (n : Nat) (hn : N.length - vs.length = n)
    (body : ∀ ds, pre ds → WS noM K E (fun C _ => bad ds C) (ds.map Sl.d ++ List.replicate n Sl.u) () ts (fun _ _ => post ds (.d .none)) (fun r _ => post ds r ∧ isDo r) (fun _ _ => False) (fun _ _ => False)) :
    ts { nx := fun _ H' => Q .non H', rt := Q } (L2.start N vs) H := by
  obtain ⟨ds, B, hd, hB, hp, q, qx⟩ := h
  have hl := dqa_len hd
  have D0 : DS noM K E (fun C _ => bad ds C) (fun _ => False) H B (fun _ => False) H B (L2.start N vs) (ds.map Sl.d ++ List.replicate n Sl.u) () := by
    refine ⟨by unfold L2.start; simp [hl]; omega, .refl hB, fun _ => id, fun i t ht => ?_, fun i j p xs ys h1 => ?_, fun C _ _ H' _ z st _ => qx C H' z fun x o hx => st.k x o hx id⟩
    · unfold L2.start
      by_cases hi : i < ds.length
      · rw [List.getElem?_append_left (by rw [List.length_map]; exact hi), List.getElem?_map, List.getElem?_eq_getElem hi] at ht
        cases ht
        obtain ⟨v, h1, h2⟩ := dqa_at hd (List.getElem?_eq_getElem hi)
        refine ⟨some v, ?_, v, rfl, h2⟩
        rw [List.getElem?_append_left (by rw [List.length_map]; omega), List.getElem?_map, h1]
        rfl
      · rw [List.getElem?_append_right (by rw [List.length_map]; omega), List.getElem?_replicate] at ht
        split at ht
        · next hc =>
          cases ht
          rw [List.length_map] at hc
          refine ⟨none, ?_, True.intro⟩
          rw [List.getElem?_append_right (by rw [List.length_map]; omega), List.getElem?_replicate, if_pos (by rw [List.length_map]; omega)]
        · cases ht
    · have := List.mem_of_getElem? h1
      rcases List.mem_append.mp this with z | z
      · obtain ⟨x, _, e⟩ := List.mem_map.mp z; cases e
      · have := (List.mem_replicate.mp z).2; cases this
  have fin : ∀ {v r F' H' B'}, (post ds r ∧ isDo r) → Stq (fun _ => False) H B F' H' B' → (noM.rel () F' H' B') → RelR K H F' H' B' v r → Q v H' := fun {v r F' H' B'} hr st hF rel =>
    q v r H' B' hr.1 (fun x o hx => st.k x o hx id) st.b st.s st.f (by
      cases r with
      | d x => exact rel
      | o xs => obtain ⟨p, us, e, g1, g2, _, g4, g5⟩ := rel; exact ⟨p, us, e, g1, g2, g4, g5⟩
      | l xs => exact hr.2.elim
      | v x => exact hr.2.elim
      | c x => exact hr.2.elim)
  have hb := body ds hp
  unfold WS at hb
  exact hb _ D0 (fun hk D' _ => fin ⟨hk, True.intro⟩ D'.st D'.r .non) (fun hk st hF rel => fin hk st hF rel) (fun z => z.elim) (fun z => z.elim)
theorem okX {P : Program} {w : World} {K : PySem.W.Frag} {mg : Str → Option Value} {base : Heap} {x qual : Str} {st : Stmt} {f : Addr} {fd : FuncData} {N ps : List Str} {k : Nat} {pre : List PyData → Prop} {post : List PyData → Rk → Prop} {bad : List PyData → Addr → Prop}
    (F : Fun K x qual st f fd) (S : FnScope N ps (defScope st)) (n : Nat) (hn : N.length = ps.length + n) (len : ∀ ds, pre ds → ds.length = ps.length)
    (hb : ∀ (cdv : Value) (A : Around) (outer : List Env) (s : Shared) (H : Hp) (E : XK), Room k (A.deeper (envOfC qual (defScope st) s.heap.objs.size f cdv)) →
      ∃ t, PSs (cxOf (L2.CX P w) P w K mg base N qual (defScope st) f cdv A outer s H E) (defBody st) t ∧
        ∀ ds, pre ds → WS noM K E (fun C _ => bad ds C) (ds.map Sl.d ++ List.replicate n Sl.u) () t (fun _ _ => post ds (.d .none)) (fun r _ => post ds r ∧ isDo r) (fun _ _ => False) (fun _ _ => False)) : FnOk P w K mg base (L2.CX P w) (k + 1) f fd ps (spX K pre post bad) :=
  F.okX S (fun vs H Q E ⟨ds, B, hd, _, hp, _⟩ => (dqa_len hd).trans (len ds hp)) fun cdv A outer s H vs Q E hr h => by
    obtain ⟨t, h1, h2⟩ := hb cdv A outer s H E hr
    refine ⟨t, h1, run_X h n ?_ fun ds hp => h2 ds hp⟩
    obtain ⟨ds, B, hd, _, hp, _⟩ := h
    rw [dqa_len hd, len ds hp, hn]
    omega
theorem ws_monoN {M : Type} {R : MR M} {K : PySem.W.Frag} {E : XK} {XP : Addr → M → Prop} {ρ : List Sl} {m : M} {nx nx' bk ct : List Sl → M → Prop} {rt : Rk → M → Prop} {t : TS} (h : WS R K E XP ρ m t nx rt bk ct) (g : ∀ ρ' m', nx ρ' m' → nx' ρ' m') : WS R K E XP ρ m t nx' rt bk ct := by
  unfold WS at h ⊢
  intro F0 H0 B0 F H B σ D d n r b c
  exact h D d (fun hk D' q => n (g _ _ hk) D' q) r b c
/-- a stop behind a statement -/
theorem ws_mid {M : Type} {R : MR M} {K : PySem.W.Frag} {E : XK} {XP : Addr → M → Prop} {ρ : List Sl} {m : M} {nx bk ct : List Sl → M → Prop} {rt : Rk → M → Prop} {t u : TS} (ρ1 : List Sl) (h : WS R K E XP ρ m t (fun ρ' m' => ρ' = ρ1 ∧ m' = m) rt bk ct) (g : WS R K E XP ρ1 m u nx rt bk ct) : WS R K E XP ρ m (tSeq t u) nx rt bk ct :=
  ws_seq (ws_monoN h fun ρ' m' e => by obtain ⟨rfl, rfl⟩ := e; exact g)
/-- a law's body behind its draws -/
theorem enter_law {K : PySem.W.Frag} {E : XK} {Q : VK} {ts : TS} {H : Hp} {a p : Addr} {ds : List Int} (n : Nat) (hp : H p = some (.lst (ds.map V.int))) (q : ∀ H', Q (.bl true) H')
    (body : WS noM K E (fun _ _ => False) (.u :: .d (.list (ds.map .int)) :: List.replicate n Sl.u) () ts (fun _ _ => False) (fun r _ => r = .d (.bool true)) (fun _ _ => False) (fun _ _ => False)) :
    ts { nx := fun _ H' => Q .non H', rt := Q } (some (.ref a) :: some (.ref p) :: List.replicate n none) H := by
  have hds : ∀ (G : Hp) (ds : List Int), DqAll K G (ds.map V.int) (ds.map .int) := fun G ds => by
    induction ds with
    | nil => exact .nil
    | cons x xs ih => exact .cons (.int x) ih
  have D0 : DS noM K E (fun _ _ => False) (fun _ => False) H H (fun _ => False) H H (some (.ref a) :: some (.ref p) :: List.replicate n none) (.u :: .d (.list (ds.map .int)) :: List.replicate n Sl.u) () := by
    refine ⟨by simp, .refl (Same.refl _), fun _ => id, fun i t ht => ?_, fun i j p xs ys h1 => ?_, fun _ _ _ _ _ z => z.elim⟩
    · match i with
      | 0 => cases ht; exact ⟨_, rfl, True.intro⟩
      | 1 => cases ht; exact ⟨_, rfl, _, rfl, .lst hp (hds _ _)⟩
      | i + 2 =>
        simp only [List.getElem?_cons_succ, List.getElem?_replicate] at ht ⊢
        split at ht
        · next h => cases ht; exact ⟨none, by rw [if_pos h], True.intro⟩
        · cases ht
    · match i with
      | 0 => cases h1
      | 1 => cases h1
      | i + 2 =>
        simp only [List.getElem?_cons_succ, List.getElem?_replicate] at h1
        split at h1 <;> cases h1
  unfold WS at body
  exact body _ D0 (fun z => z.elim) (fun {v r m' F' H' B'} hk st hF rel => by rw [hk] at rel; rw [dq_bl rel]; exact q _) (fun z => z.elim) (fun z => z.elim)
theorem opP_catG {M : Type} {R : MR M} {K : PySem.W.Frag} {E : XK} {XP : Addr → M → Prop} {ρ : List Sl} {m : M} {k : Rk → M → Prop} {a b : Rk} {xs ys : List PyData} (ha : LR a xs) (hb : LR b ys) (hl : xs.length + ys.length ≤ 90000) (hk : ∀ zs, zs = xs ++ ys → k (.o zs) m) : OpP R K E XP ρ m rCat a b k := opP_cat ha hb hl (hk _ rfl)
theorem peK_bm {K : PySem.W.Frag} {X : Cx} {T name id : _} {r : _} {o e : Expr} {es : List Expr} {to : TE} {t : TA} {cpos apos : Pos} (h : X.K = K) (pa : PlainAttrs T) (slot : Slot T name id) (hty : typeOf (.builtin id) = pure (.type "method_descriptor")) (hm : MtR X id r) (ho : PE X o to) (ha : PA X (e :: es) t)
    (hbase : attributeBase o name X.env (eval o X.env) = eval o X.env := by rfl)
    (hfew : ((backTo cpos (starEach (e :: es) X.env)).all (fun x => !x.1) && (backToKw cpos (keywordEach [] X.env)).all (fun x => x.1.isSome)
      && decide ((e :: es).length + ([] : List Keyword).length + (if ([] : List Keyword).isEmpty then 0 else 1) < 30)) = true := by rfl)
    (hline : (apos.endLine == cpos.line) = true := by rfl) (hs : starEach (e :: es) X.env = (false, eval e X.env) :: starEach es X.env := by rfl) (hplain : (backTo cpos (starEach es X.env)).any (·.1) = false := by rfl) :
    PE X (.Call (.Attribute o name apos) (e :: es) [] cpos) (tBM K T r to t) := by
  subst h
  exact pe_bm pa slot hty hm ho ha hbase hfew hline hs hplain
def rIsB : R2 := fun x y H Q => ∃ a b, x = .bl a ∧ y = .bl b ∧ Q (.bl (decide (a = b))) H
def rNotB : R2 := fun x y H Q => ∃ a b, x = .bl a ∧ y = .bl b ∧ Q (.bl (!decide (a = b))) H
theorem op_isB1 {X : Cx} : OpR X (compareOp .Is) rIsB := op_is_bl
theorem op_notB1 {X : Cx} : OpR X (compareOp .IsNot) rNotB := op_isnot_bl
section
variable {M : Type} {R : MR M} {K : PySem.W.Frag} {E : XK} {XP : Addr → M → Prop} {ρ : List Sl} {m : M} {k : Rk → M → Prop}
theorem opP_isB {a b : Bool} (hk : k (.d (.bool (decide (a = b)))) m) : OpP R K E XP ρ m rIsB (.d (.bool a)) (.d (.bool b)) k :=
  opP_sc (v := .bl (decide (a = b))) rfl (fun _ ra rb Q q => ⟨a, b, dq_bl ra, dq_bl rb, q⟩) hk
theorem opP_notB {a b : Bool} (hk : k (.d (.bool (!decide (a = b)))) m) : OpP R K E XP ρ m rNotB (.d (.bool a)) (.d (.bool b)) k :=
  opP_sc (v := .bl (!decide (a = b))) rfl (fun _ ra rb Q q => ⟨a, b, dq_bl ra, dq_bl rb, q⟩) hk
end
theorem opK_repT {K : PySem.W.Frag} {X : Cx} (h : X.K = K) : OpR X (binaryOp .Mult) (rRepT K) := by subst h; exact op_repT
theorem dqa_rep {K : PySem.W.Frag} {H : Hp} {vs : List V} {ds : List PyData} (h : DqAll K H vs ds) : ∀ n : Nat, DqAll K H (List.replicate n vs).flatten (List.replicate n ds).flatten
  | 0 => .nil
  | n + 1 => by rw [List.replicate_succ, List.replicate_succ, List.flatten_cons, List.flatten_cons]; exact dqa_app h (dqa_rep h n)
theorem opP_repT {M : Type} {R : MR M} {K : PySem.W.Frag} {E : XK} {XP : Addr → M → Prop} {ρ : List Sl} {m : M} {k : Rk → M → Prop} {xs : List PyData} {j : Int} (hc : xs ≠ [] ∧ 2 ≤ j ∧ j ≤ 1000 ∧ xs.length ≤ 1000) (hk : k (.d (.tuple (List.replicate j.toNat xs).flatten)) m) : OpP R K E XP ρ m (rRepT K) (.d (.tuple xs)) (.d (.int j)) k := by
  unfold OpP
  intro F0 H0 B0 F H B σ Hs x y D ra rb Q q
  obtain ⟨p, vs, rfl, h1, h2⟩ := dq_tup ra
  have e := dq_int rb
  subst e
  have l1 := dqa_len h2
  exact ⟨p, j, vs, rfl, rfl, sqt_same D.st.s h1, fun z => hc.1 (by rw [z] at l1; exact List.length_eq_zero_iff.mp l1.symm), hc.2.1, hc.2.2.1, by omega, fun p' hp => newD D hp (dqa_rep h2 _) hk q⟩
theorem we_callX {M : Type} {R : MR M} {K : PySem.W.Frag} {E : XK} {XP : Addr → M → Prop} {ρ : List Sl} {m : M} {k : Rk → M → Prop} {tr : TA} {pre : List PyData → Prop} {post : List PyData → Rk → Prop} {bad : List PyData → Addr → Prop} {E' : XK} (h : WA R K E XP ρ m tr fun rs m1 => ∃ ds, DLo rs = some ds ∧ pre ds ∧ (∀ C, ¬ bad ds C) ∧ ∀ r, post ds r → k r m1) : WE R K E XP ρ m (tCall (spX K pre post bad) [] E' tr) k := by
  unfold WE
  intro F0 H0 B0 F H B σ D Q q
  refine wa_data h D _ fun vs ds m1 F1 H1 B1 ⟨hp, hn, hk⟩ D1 q1 hd => ?_
  refine ⟨ds, B1, by rw [List.append_nil]; exact hd, D1.st.s, hp, fun v r H' B' hr s1 b1 t1 f1 rel => ?_, fun C H' hb => absurd hb (hn C)⟩
  have D2 := D1.pure s1 b1 t1 f1
  have q2 := q1.trans (Stq.pure (F := F1) s1 b1 t1 f1)
  refine q v r m1 F1 H' B' (hk r hr) D2 q2 ?_
  cases r with
  | d x => exact rel
  | o xs =>
    obtain ⟨p, us, rfl, g1, g2, g3, g4⟩ := rel
    exact ⟨p, us, rfl, g1, g2, D1.nF g3, Classical.byContradiction fun z => q1.e p z g3, g4⟩
  | l _ => exact rel.elim
  | v _ => exact rel.elim
  | c _ => exact rel.elim
/-! ## defs that change what stands in a state m -/
/-- the first argument is the thing of the state, the others are data -/
def spM {M : Type} (R : MR M) (K : PySem.W.Frag) (at_ : M → Addr) (pre : M → List PyData → Prop) (post : M → List PyData → Rk → M → Prop) (bad : M → List PyData → Addr → Prop) : Sp := fun vs H Q E => ∃ m us ds F B, vs = .ref (at_ m) :: us ∧ DqAll K B us ds ∧ Same B H ∧ R.rel m F H B ∧ pre m ds ∧
  (∀ v r m' F' H' B', post m ds r m' → Stq F H B F' H' B' → R.rel m' F' H' B' → RelR K H F' H' B' v r → Q v H') ∧ ∀ C F' H' B', bad m ds C → Stq F H B F' H' B' → R.rel m F' H' B' → E (.ref C) none H'
section
variable {M : Type} {R : MR M} {K : PySem.W.Frag} {E : XK} {XP : Addr → M → Prop} {ρ : List Sl} {m : M} {k : Rk → M → Prop} {ta te : TE} {tr : TA} {at_ : M → Addr} {pre : M → List PyData → Prop} {post : M → List PyData → Rk → M → Prop} {bad : M → List PyData → Addr → Prop}
/-- what a method answers -/
def ClsAt (R : MR M) (at_ : M → Addr) (C : Addr) (mm : Str) : Prop := ∀ {m F H B}, R.rel m F H B → ∃ dx fs, H (at_ m) = some (.ins C dx fs) ∧ fs.lookup mm = none
theorem we_meth {C : Addr} {mm : Str} {E' : XK} {i : Nat} (hc : ClsAt R at_ C mm) (hi : ρ[i]? = some (.v (.ref (at_ m))))
    (h : WA R K E XP ρ m tr fun rs m1 => ∃ ds, DLo rs = some ds ∧ at_ m1 = at_ m ∧ pre m1 ds ∧ (∀ D, ¬ bad m1 ds D) ∧ ∀ r m2, post m1 ds r m2 → k r m2) : WE R K E XP ρ m (tMeth C mm (spM R K at_ pre post bad) [] E' (tVar i) tr) k := by
  unfold WE
  intro F0 H0 B0 F H B σ D Q q
  obtain ⟨w, h1, h2⟩ := D.s i _ hi
  cases (show w = some (.ref (at_ m)) from h2)
  obtain ⟨dx, fs, h3, h4⟩ := hc D.r
  refine ⟨_, h1, at_ m, dx, fs, rfl, h3, h4, wa_data h D _ fun vs ds m1 F1 H1 B1 ⟨ea, hp, hn, hk⟩ D1 q1 hd => ?_⟩
  refine ⟨m1, vs, ds, F1, B1, by rw [List.append_nil, ea], hd, D1.st.s, D1.r, hp, fun v r m' F' H' B' hr st rl rel => ?_, fun C F' H' B' hb => absurd hb (hn C)⟩
  exact q v r m' F' H' B' (hk r m' hr) (D1.step st rl) (q1.trans st) (rel.base fun x hx => q1.e x hx)
end
/-- a method's body -/
theorem run_M {M : Type} {R : MR M} {K : PySem.W.Frag} {E : XK} {at_ : M → Addr} {pre : M → List PyData → Prop} {post : M → List PyData → Rk → M → Prop} {bad : M → List PyData → Addr → Prop} {vs : List V} {H : Hp} {Q : VK} {N : List Str} {ts : TS} (h : spM R K at_ pre post bad vs H Q E) (n : Nat) (hn : N.length - vs.length = n)
    (body : ∀ m ds, pre m ds → WS R K E (fun C m' => bad m ds C ∧ m' = m) (.v (.ref (at_ m)) :: (ds.map Sl.d ++ List.replicate n Sl.u)) m ts (fun _ m' => post m ds (.d .none) m') (fun r m' => post m ds r m') (fun _ _ => False) (fun _ _ => False)) :
    ts { nx := fun _ H' => Q .non H', rt := Q } (L2.start N vs) H := by
  obtain ⟨m, us, ds, F, B, rfl, hd, hB, hR, hp, q, qx⟩ := h
  have hl := dqa_len hd
  have D0 : DS R K E (fun C m' => bad m ds C ∧ m' = m) F H B F H B (L2.start N (.ref (at_ m) :: us)) (.v (.ref (at_ m)) :: (ds.map Sl.d ++ List.replicate n Sl.u)) m := by
    refine ⟨by unfold L2.start; simp [hl] at hn ⊢; omega, .refl hB, hR, fun i t ht => ?_, fun i j p xs ys h1 => ?_, fun C m' F' H' B' z st rl => by obtain ⟨z, rfl⟩ := z; exact qx C F' H' B' z st rl⟩
    · cases i with
      | zero => cases ht; exact ⟨_, rfl, rfl⟩
      | succ i =>
        unfold L2.start
        rw [List.getElem?_cons_succ] at ht
        rw [List.map_cons, List.cons_append, List.getElem?_cons_succ]
        by_cases hi : i < ds.length
        · rw [List.getElem?_append_left (by rw [List.length_map]; exact hi), List.getElem?_map, List.getElem?_eq_getElem hi] at ht
          cases ht
          obtain ⟨v, h1, h2⟩ := dqa_at hd (List.getElem?_eq_getElem hi)
          refine ⟨some v, ?_, v, rfl, h2⟩
          rw [List.getElem?_append_left (by rw [List.length_map]; omega), List.getElem?_map, h1]
          rfl
        · rw [List.getElem?_append_right (by rw [List.length_map]; omega), List.getElem?_replicate] at ht
          split at ht
          · next hc =>
            cases ht
            rw [List.length_map] at hc
            refine ⟨none, ?_, True.intro⟩
            rw [List.length_cons] at hn
            rw [List.getElem?_append_right (by rw [List.length_map]; omega), List.getElem?_replicate, if_pos (by rw [List.length_map, List.length_cons]; omega)]
          · cases ht
    · have := List.mem_of_getElem? h1
      rcases List.mem_cons.mp this with z | z
      · cases z
      · rcases List.mem_append.mp z with z | z
        · obtain ⟨x, _, e⟩ := List.mem_map.mp z; cases e
        · have := (List.mem_replicate.mp z).2; cases this
  have hb := body m ds hp
  unfold WS at hb
  exact hb _ D0 (fun hk D' _ => q .non (.d .none) _ _ _ _ hk D'.st D'.r .non) (fun hk st hF rel => q _ _ _ _ _ _ hk st hF rel) (fun z => z.elim) (fun z => z.elim)
theorem okM {M : Type} {R : MR M} {P : Program} {w : World} {K : PySem.W.Frag} {mg : Str → Option Value} {base : Heap} {x qual : Str} {st : Stmt} {f : Addr} {fd : FuncData} {N ps : List Str} {k : Nat} {at_ : M → Addr} {pre : M → List PyData → Prop} {post : M → List PyData → Rk → M → Prop}
    (F : Fun K x qual st f fd) (S : FnScope N ps (defScope st)) (n : Nat) (hn : N.length = ps.length + n) (len : ∀ m ds, pre m ds → ds.length + 1 = ps.length)
    (hb : ∀ (cdv : Value) (A : Around) (outer : List Env) (s : Shared) (H : Hp) (E : XK), Room k (A.deeper (envOfC qual (defScope st) s.heap.objs.size f cdv)) →
      ∃ t, PSs (cxOf CX0 P w K mg base N qual (defScope st) f cdv A outer s H E).nox (defBody st) t ∧
        ∀ m ds, pre m ds → WS R K E (fun C m' => False ∧ m' = m) (.v (.ref (at_ m)) :: (ds.map Sl.d ++ List.replicate n Sl.u)) m t (fun _ m' => post m ds (.d .none) m') (fun r m' => post m ds r m') (fun _ _ => False) (fun _ _ => False)) : FnOk P w K mg base CX0 (k + 1) f fd ps (spM R K at_ pre post fun _ _ _ => False) :=
  F.ok S (fun vs H Q E ⟨m, us, ds, F, B, e, hd, _, _, hp, _⟩ => by rw [e, List.length_cons, dqa_len hd, len m ds hp]) fun cdv A outer s H vs Q E hr h => by
    obtain ⟨t, h1, h2⟩ := hb cdv A outer s H E hr
    refine ⟨t, h1, run_M h n ?_ fun m ds hp => h2 m ds hp⟩
    obtain ⟨m, us, ds, F, B, rfl, hd, _, _, hp, _⟩ := h
    have := len m ds hp
    rw [List.length_cons, dqa_len hd, this, hn]
    omega
/-! ## the store -/
theorem Stq.putF {F : AP} {H B : Hp} {p : Addr} {o : HO} (s : Same B H) (hF : F p) (hb : B p = none) : Stq F H B F (upd H p o) B where
  b := Same.refl _
  s := fun x u h => by rw [upd_ne (fun z => by rw [z, hb] at h; cases h)]; exact s x u h
  f := fun _ _ h => h
  k := fun x u h n => by rw [upd_ne (fun z => n (by rw [z]; exact hF))]; exact h
  n := fun _ _ h => h
  e := fun x h => by
    by_cases hx : x = p
    · rw [hx, upd_same]; simp
    · rw [upd_ne hx]; exact h
abbrev Tab := List (List Key × PyData)
def lkD (tab : Tab) (k : List Key) : Option PyData := (tab.find? fun z => decide (z.1 = k)).map Prod.snd
def putD (tab : Tab) (k : List Key) (d : PyData) : Tab := if (tab.any fun z => decide (z.1 = k)) = true then tab.map (fun z => if z.1 = k then (z.1, d) else z) else tab ++ [(k, d)]
def dropD (tab : Tab) (k : List Key) : Tab := tab.filter fun z => decide (z.1 ≠ k)
/-- a table of the heap and its mirror -/
inductive TRel (K : PySem.W.Frag) (B : Hp) : List (List Key × V) → Tab → Prop
  | nil : TRel K B [] []
  | cons {k : List Key} {v : V} {d : PyData} {kvs : List (List Key × V)} {tab : Tab} : Dq K B v d → TRel K B kvs tab → TRel K B ((k, v) :: kvs) ((k, d) :: tab)
section
variable {K : PySem.W.Frag} {B B' : Hp}
theorem TRel.same (s : Same B B') : ∀ {kvs : List (List Key × V)} {tab : Tab}, TRel K B kvs tab → TRel K B' kvs tab
  | _, _, .nil => .nil
  | _, _, .cons h t => .cons (dq_same s _ h) (t.same s)
theorem TRel.length : ∀ {kvs : List (List Key × V)} {tab : Tab}, TRel K B kvs tab → kvs.length = tab.length
  | _, _, .nil => rfl
  | _, _, .cons _ t => by rw [List.length_cons, List.length_cons, t.length]
theorem TRel.keys : ∀ {kvs : List (List Key × V)} {tab : Tab}, TRel K B kvs tab → kvs.map Prod.fst = tab.map Prod.fst
  | _, _, .nil => rfl
  | _, _, .cons _ t => by rw [List.map_cons, List.map_cons, t.keys]
theorem TRel.get (k : List Key) : ∀ {kvs : List (List Key × V)} {tab : Tab}, TRel K B kvs tab → (valV kvs k = none ∧ lkD tab k = none) ∨ ∃ v d, valV kvs k = some v ∧ lkD tab k = some d ∧ Dq K B v d
  | _, _, .nil => .inl ⟨rfl, rfl⟩
  | _, _, .cons (k := k') (v := v) (d := d) h t => by
    unfold valV lkD
    rw [List.find?_cons, List.find?_cons]
    by_cases e : k' = k
    · rw [decide_eq_true e]
      exact .inr ⟨v, d, rfl, rfl, h⟩
    · rw [decide_eq_false e]
      exact t.get k
theorem TRel.has (k : List Key) : ∀ {kvs : List (List Key × V)} {tab : Tab}, TRel K B kvs tab → (kvs.any fun z => decide (z.1 = k)) = (tab.any fun z => decide (z.1 = k))
  | _, _, .nil => rfl
  | _, _, .cons _ t => by rw [List.any_cons, List.any_cons, t.has k]
theorem TRel.app {kvs : List (List Key × V)} {tab : Tab} {k : List Key} {v : V} {d : PyData} (h : Dq K B v d) : TRel K B kvs tab → TRel K B (kvs ++ [(k, v)]) (tab ++ [(k, d)])
  | .nil => .cons h .nil
  | .cons a t => .cons a (t.app h)
theorem TRel.set {k : List Key} {v : V} {d : PyData} (h : Dq K B v d) : ∀ {kvs : List (List Key × V)} {tab : Tab}, TRel K B kvs tab → TRel K B (kvs.map fun z => if z.1 = k then (z.1, v) else z) (tab.map fun z => if z.1 = k then (z.1, d) else z)
  | _, _, .nil => .nil
  | _, _, .cons (k := k') a t => by
    rw [List.map_cons, List.map_cons]
    by_cases e : k' = k
    · rw [if_pos e, if_pos e]; exact .cons h (t.set h)
    · rw [if_neg e, if_neg e]; exact .cons a (t.set h)
theorem TRel.put {kvs : List (List Key × V)} {tab : Tab} (t : TRel K B kvs tab) (k : List Key) {v : V} {d : PyData} (h : Dq K B v d) : TRel K B (putK kvs k v) (putD tab k d) := by
  unfold putK putD
  rw [t.has k]
  split
  · exact t.set h
  · exact t.app h
theorem TRel.drop (k : List Key) : ∀ {kvs : List (List Key × V)} {tab : Tab}, TRel K B kvs tab → TRel K B (dropK kvs k) (dropD tab k)
  | _, _, .nil => .nil
  | _, _, .cons (k := k') a t => by
    unfold dropK dropD
    rw [List.filter_cons, List.filter_cons]
    by_cases e : k' = k
    · rw [if_neg (by simp [e]), if_neg (by simp [e])]; exact t.drop k
    · rw [if_pos (by simp [e]), if_pos (by simp [e])]; exact .cons a (t.drop k)
end
structure SM where
  s : Addr
  t : Addr
  c : Addr
  rev : Int
  old : Int
  tab : Tab
  chs : List PyData
def fSto (m : SM) : List (Str × V) := [("revision", .int m.rev), ("oldest", .int m.old), ("_table", .ref m.t), ("_changes", .ref m.c)]
/-- the table of code, all of it in F -/
def TabF (F : AP) (H : Hp) (P : Addr) (q : Str) : Prop := ∃ ps : Array Value, H P = some (.tbl ps) ∧ TriplesOk ps.toList ∧ ∀ (pos : Pos) (cv : Value), codeAmong pos ps.toList = some cv → ∃ c, cv = .ref c ∧ H c = some (LamX.CodeO c q) ∧ F c
def stoR (K : PySem.W.Frag) (C P : Addr) (q : Str) : MR SM where
  rel := fun m F H B => (∃ dx, H m.s = some (.ins C dx (fSto m))) ∧ (∃ kvs, H m.t = some (.dT kvs) ∧ TRel K B kvs m.tab) ∧ (∃ us, H m.c = some (.lst us) ∧ DqAll K B us m.chs) ∧ TabF F H P q ∧ F m.s ∧ F m.t ∧ F m.c ∧ F P ∧ ∀ x, F x → H x ≠ none ∧ B x = none
  frame := fun {m F H B H' B'} ⟨h1, h2, h3, h4, f1, f2, f3, f4, hd⟩ e s n => by
    refine ⟨by rw [e _ f1]; exact h1, ?_, ?_, ?_, f1, f2, f3, f4, fun x hx => ⟨by rw [e x hx]; exact (hd x hx).1, n x hx⟩⟩
    · obtain ⟨kvs, a, b⟩ := h2
      exact ⟨kvs, by rw [e _ f2]; exact a, b.same s⟩
    · obtain ⟨us, a, b⟩ := h3
      exact ⟨us, by rw [e _ f3]; exact a, dqa_same s _ b⟩
    · obtain ⟨ps, a, b, c⟩ := h4
      refine ⟨ps, by rw [e _ f4]; exact a, b, fun pos cv hc => ?_⟩
      obtain ⟨c', u1, u2, u3⟩ := c pos cv hc
      exact ⟨c', u1, by rw [e _ u3]; exact u2, u3⟩
  dom := fun ⟨_, _, _, _, _, _, _, _, hd⟩ hx => hd _ hx
section
variable {K : PySem.W.Frag} {C P : Addr} {q : Str} {E : XK} {XP : Addr → SM → Prop} {ρ : List Sl} {m : SM} {k : Rk → SM → Prop} {te td ty tv : TE} {tr : TA} {nx bk ct : List Sl → SM → Prop} {rt : Rk → SM → Prop} {i : Nat}
theorem we_fldI {f : Str} {j : Int} (hC : Cls K C) (hN : NoAttr K C f) (hi : ρ[i]? = some (.v (.ref m.s))) (hl : (fSto m).lookup f = some (.int j)) (hk : k (.d (.int j)) m) : WE (stoR K C P q) K E XP ρ m (tFld K (tVar i) f) k := by
  unfold WE
  intro F0 H0 B0 F H B σ D Q qq
  obtain ⟨w, h1, h2⟩ := D.s i _ hi
  cases (show w = some (.ref m.s) from h2)
  obtain ⟨dx, h3⟩ := D.r.1
  exact ⟨_, h1, m.s, C, dx, _, _, rfl, h3, hC, hN, hl, qq _ _ m _ _ _ hk D (.refl D.st.s) (.int j)⟩
theorem we_fldV {f : Str} {v : V} (hC : Cls K C) (hN : NoAttr K C f) (hi : ρ[i]? = some (.v (.ref m.s))) (hl : (fSto m).lookup f = some v) (hk : k (.v v) m) : WE (stoR K C P q) K E XP ρ m (tFld K (tVar i) f) k := by
  unfold WE
  intro F0 H0 B0 F H B σ D Q qq
  obtain ⟨w, h1, h2⟩ := D.s i _ hi
  cases (show w = some (.ref m.s) from h2)
  obtain ⟨dx, h3⟩ := D.r.1
  exact ⟨_, h1, m.s, C, dx, _, _, rfl, h3, hC, hN, hl, qq _ (.v v) m _ _ _ hk D (.refl D.st.s) rfl⟩
/-- a key of two texts -/
def is2K (b : Rk) (x y : Str) : Prop := b = .d (.tuple [.str x, .str y])
theorem key_at {B H : Hp} {v : V} {x y : Str} (s : Same B H) (h : Dq K B v (.tuple [.str x, .str y])) : ∃ p, v = .ref p ∧ H p = some (.tup (([.inr x, .inr y] : List Key).map kV)) := by
  obtain ⟨p, ws, rfl, h1, h2⟩ := dq_tupH h
  have : ws = [.str x, .str y] := by
    cases h2 with
    | cons a b =>
      cases b with
      | cons c d => cases d; rw [dq_str a, dq_str c]
  subst this
  exact ⟨p, rfl, s _ _ h1⟩
theorem we_get1 (h : WE (stoR K C P q) K E XP ρ m td fun a m1 => a = .v (.ref m1.t) ∧ WE (stoR K C P q) K E XP ρ m1 ty fun b m2 => m2.t = m1.t ∧ ∃ x y, b = .d (.tuple [.str x, .str y]) ∧ k (.d ((lkD m2.tab [.inr x, .inr y]).getD .none)) m2) :
    WE (stoR K C P q) K E XP ρ m (tDGet1 td ty) k := by
  unfold WE at h ⊢
  intro F0 H0 B0 F H B σ D Q qq
  refine h D _ fun v a m1 F1 H1 B1 ⟨ea, k1⟩ D1 q1 r1 => ?_
  subst ea
  cases (show v = .ref m1.t from r1)
  obtain ⟨kvs, h1, h2⟩ := D1.r.2.1
  refine ⟨m1.t, rfl, .inr ⟨kvs, .inl h1⟩, k1 D1 _ fun w b m2 F2 H2 B2 ⟨et, x, y, eb, k2⟩ D2 q2 r2 => ?_⟩
  subst eb
  obtain ⟨p, rfl, hp⟩ := key_at D2.st.s r2
  obtain ⟨kvs2, h3, h4⟩ := D2.r.2.1
  rw [et] at h3
  refine ⟨_, DGet.t h3 hp, ?_⟩
  refine qq _ _ m2 F2 H2 B2 k2 D2 (q1.trans q2) ?_
  rcases h4.get [.inr x, .inr y] with ⟨e1, e2⟩ | ⟨u, d, e1, e2, e3⟩
  · rw [e1, e2]; exact .non
  · rw [e1, e2]; exact e3
end
/-! ## what changes the store -/
def sDDelT (td ty : TE) : TS := fun D σ H => td σ H fun x H1 => ty σ H1 fun y H2 => ∃ a kvs k b, x = .ref a ∧ H2 a = some (.dT kvs) ∧ y = .ref b ∧ H2 b = some (.tup (k.map kV)) ∧ (valV kvs k).isSome = true ∧ D.nx σ (upd H2 a (.dT (dropK kvs k)))
theorem ps_ddelT {X : Cx} {o i : Expr} {pos tpos : Pos} {td ty : TE} (hu : X.A.units + 1 < cLine) (ho : PE X o td) (hi : PE X i ty) : PS X (.Delete [.Subscript o i tpos] pos) (sDDelT td ty) := by
  refine ⟨fun pins s σ H D I h => wpAny_Delete (wpAny_deleteEach_cons (wpAny_delete_Subscript (thn (ho.run pins s σ H _ I h) fun u s1 ⟨x, H1, I1, rx, q1⟩ => thn (hi.run pins s1 σ H1 _ I1 q1) fun iv s2 z => ?_)))⟩
  obtain ⟨y, H2, I2, ry, a, kvs, k, b, rfl, ha, rfl, hb, l, q2⟩ := z
  obtain rfl : u = Value.ref a := rx
  obtain rfl : iv = Value.ref b := ry
  obtain ⟨z, hd, xs, rel, dd⟩ := dt_of I2.hok ha
  have hz : xs.length ≤ sizeLine := Paired.length rel ▸ z
  obtain ⟨p, hp⟩ : ∃ p, atKey xs k = some p := by
    have r := rel.val k
    cases e : atKey xs k with
    | some p => exact ⟨p, rfl⟩
    | none =>
      rw [e] at r
      cases ev : valV kvs k with
      | none => rw [ev] at l; cases l
      | some v => rw [ev] at r; exact r.elim
  refine wpAny_delItem_heap (hsz := hz) (tupleKind_room_in1 hu) (key_of I2.hok hb) hd dd hp fun h' dd' hs => wpAny_deleteEach_nil ?_
  obtain ⟨ob, es, ep, e1, e2, e3, e4, _, e5⟩ := dd'
  have I3 : Inv X pins σ (upd H2 a (.dT (dropK kvs k))) { s2 with heap := h', toks := s2.toks + (tupleKind (mixKind X.prog X.w)).draws k } := d_write I2 (show Mut (H2 a) by rw [ha]; exact True.intro) hs ⟨ob, e1⟩
    ⟨Nat.le_trans (dropK_le kvs k) z, hd, _, (DX.KT_drop k rel).keeps (fun c ys ec => by rw [upd_ne (ne_of ec ha fun z => nomatch z)]; exact ec), ob, es, ep, e1, e2, e3, e4, e5⟩
  exact ⟨σ, _, I3, q2⟩
section
variable {K : PySem.W.Frag} {C P : Addr} {q : Str} {F : AP} {H B : Hp} {m : SM}
theorem tabF_upd {p : Addr} {o : HO} (h : TabF F H P q) (n1 : p ≠ P) (n2 : ∀ c, H c = some (LamX.CodeO c q) → p ≠ c) : TabF F (upd H p o) P q := by
  obtain ⟨ps, a, b, c⟩ := h
  refine ⟨ps, by rw [upd_ne (Ne.symm n1)]; exact a, b, fun pos cv hc => ?_⟩
  obtain ⟨c', u1, u2, u3⟩ := c pos cv hc
  exact ⟨c', u1, by rw [upd_ne (Ne.symm (n2 c' u2))]; exact u2, u3⟩
theorem dom_upd {p : Addr} {o : HO} (hd : ∀ x, F x → H x ≠ none ∧ B x = none) : ∀ x, F x → (upd H p o) x ≠ none ∧ B x = none := fun x hx => by
  refine ⟨?_, (hd x hx).2⟩
  by_cases e : x = p
  · rw [e, upd_same]; simp
  · rw [upd_ne e]; exact (hd x hx).1
theorem rel_rev {dx : Addr} {r : Int} (h : (stoR K C P q).rel m F H B) (_ : H m.s = some (.ins C dx (fSto m))) : (stoR K C P q).rel { m with rev := r } F (upd H m.s (.ins C dx (fSto { m with rev := r }))) B := by
  obtain ⟨⟨dx', h1⟩, ⟨kvs, t1, t2⟩, ⟨us, c1, c2⟩, h4, f1, f2, f3, f4, hd⟩ := h
  have hP : ∃ ps, H P = some (.tbl ps) := by obtain ⟨ps, a, _⟩ := h4; exact ⟨ps, a⟩
  obtain ⟨ps, hP⟩ := hP
  refine ⟨⟨dx, upd_same⟩, ⟨kvs, ?_, t2⟩, ⟨us, ?_, c2⟩, tabF_upd h4 (fun z => ?_) (fun c hc z => ?_), f1, f2, f3, f4, dom_upd hd⟩
  · show (upd H m.s _) m.t = _
    rw [upd_ne (ne_of t1 h1 (fun z => nomatch z))]; exact t1
  · show (upd H m.s _) m.c = _
    rw [upd_ne (ne_of c1 h1 (fun z => nomatch z))]; exact c1
  · rw [← z, h1] at hP; cases hP
  · rw [← z, h1] at hc; unfold LamX.CodeO at hc; cases hc
theorem rel_tab {kvs : List (List Key × V)} {tab : Tab} (h : (stoR K C P q).rel m F H B) (ht : TRel K B kvs tab) : (stoR K C P q).rel { m with tab := tab } F (upd H m.t (.dT kvs)) B := by
  obtain ⟨⟨dx, h1⟩, ⟨kvs', t1, _⟩, ⟨us, c1, c2⟩, h4, f1, f2, f3, f4, hd⟩ := h
  obtain ⟨ps, hP⟩ : ∃ ps, H P = some (.tbl ps) := by obtain ⟨ps, a, _⟩ := h4; exact ⟨ps, a⟩
  refine ⟨⟨dx, ?_⟩, ⟨kvs, upd_same, ht⟩, ⟨us, ?_, c2⟩, tabF_upd h4 (fun z => ?_) (fun c hc z => ?_), f1, f2, f3, f4, dom_upd hd⟩
  · show (upd H m.t _) m.s = _
    rw [upd_ne (ne_of h1 t1 (fun z => nomatch z))]; exact h1
  · show (upd H m.t _) m.c = _
    rw [upd_ne (ne_of c1 t1 (fun z => nomatch z))]; exact c1
  · rw [← z, t1] at hP; cases hP
  · rw [← z, t1] at hc; unfold LamX.CodeO at hc; cases hc
theorem rel_chs {us : List V} {chs : List PyData} (h : (stoR K C P q).rel m F H B) (hu : DqAll K B us chs) : (stoR K C P q).rel { m with chs := chs } F (upd H m.c (.lst us)) B := by
  obtain ⟨⟨dx, h1⟩, ⟨kvs, t1, t2⟩, ⟨us', c1, _⟩, h4, f1, f2, f3, f4, hd⟩ := h
  obtain ⟨ps, hP⟩ : ∃ ps, H P = some (.tbl ps) := by obtain ⟨ps, a, _⟩ := h4; exact ⟨ps, a⟩
  refine ⟨⟨dx, ?_⟩, ⟨kvs, ?_, t2⟩, ⟨us, upd_same, hu⟩, tabF_upd h4 (fun z => ?_) (fun c hc z => ?_), f1, f2, f3, f4, dom_upd hd⟩
  · show (upd H m.c _) m.s = _
    rw [upd_ne (ne_of h1 c1 (fun z => nomatch z))]; exact h1
  · show (upd H m.c _) m.t = _
    rw [upd_ne (ne_of t1 c1 (fun z => nomatch z))]; exact t1
  · rw [← z, c1] at hP; cases hP
  · rw [← z, c1] at hc; unfold LamX.CodeO at hc; cases hc
end
section
variable {K : PySem.W.Frag} {C P : Addr} {q : Str} {E : XK} {XP : Addr → SM → Prop} {ρ : List Sl} {m : SM} {k : Rk → SM → Prop} {te td ty tv : TE} {tr : TA} {nx bk ct : List Sl → SM → Prop} {rt : Rk → SM → Prop} {i : Nat}
theorem ws_revaug {j : Int} (hC : Cls K C) (hN : NoAttr K C "revision") (hi : ρ[i]? = some (.v (.ref m.s))) (hk : nx ρ { m with rev := m.rev + j }) : WS (stoR K C P q) K E XP ρ m (sFldAug K (tVar i) (tC (.int j)) rAdd "revision") nx rt bk ct := by
  unfold WS
  intro F0 H0 B0 F H B σ D d n r b c
  obtain ⟨w, h1, h2⟩ := d.s i _ hi
  cases (show w = some (.ref m.s) from h2)
  obtain ⟨dx, h3⟩ := d.r.1
  refine ⟨_, h1, m.s, C, dx, _, _, rfl, h3, hC, hN, rfl, m.rev, j, rfl, rfl, dx, _, h3, by show 4 < 1000; decide, ?_⟩
  have hs : F m.s := d.r.2.2.2.2.1
  have hB := (d.r.2.2.2.2.2.2.2.2 _ hs).2
  exact n hk (d.step (.putF d.st.s hs hB) (rel_rev (r := m.rev + j) d.r h3)) (Same.refl _)
theorem ws_dput (h : WE (stoR K C P q) K E XP ρ m tv fun r m1 => ∃ d, r = .d d ∧ WE (stoR K C P q) K E XP ρ m1 td fun a m2 => a = .v (.ref m2.t) ∧ WE (stoR K C P q) K E XP ρ m2 ty fun b m3 => m3.t = m2.t ∧ ∃ x y, b = .d (.tuple [.str x, .str y]) ∧ m3.tab.length < 90000 ∧ nx ρ { m3 with tab := putD m3.tab [.inr x, .inr y] d }) :
    WS (stoR K C P q) K E XP ρ m (sDPut td ty tv) nx rt bk ct := by
  unfold WE at h
  unfold WS
  intro F0 H0 B0 F H B σ D d n r b c
  refine h d _ fun v rv m1 F1 H1 B1 ⟨dd, e1, k1⟩ D1 q1 r1 => ?_
  subst e1
  refine k1 D1 _ fun w ra m2 F2 H2 B2 ⟨e2, k2⟩ D2 q2 r2 => ?_
  subst e2
  cases (show w = .ref m2.t from r2)
  refine k2 D2 _ fun u rb m3 F3 H3 B3 ⟨et, x, y, e3, hl, k3⟩ D3 q3 r3 => ?_
  subst e3
  obtain ⟨p, rfl, hp⟩ := key_at D3.st.s r3
  obtain ⟨kvs, h1, h2⟩ := D3.r.2.1
  have hv : Dq K B3 v dd := dq_same q3.b _ (dq_same q2.b _ r1)
  rw [← et]
  refine ⟨m3.t, _, rfl, DPut.t h1 hp (szl (by rw [h2.length]; omega)), ?_⟩
  have hs : F3 m3.t := D3.r.2.2.2.2.2.1
  have hB := (D3.r.2.2.2.2.2.2.2.2 _ hs).2
  exact n k3 (D3.step (.putF D3.st.s hs hB) (rel_tab D3.r (h2.put _ hv))) (q1.b.trans (q2.b.trans q3.b))
theorem ws_ddel (h : WE (stoR K C P q) K E XP ρ m td fun a m2 => a = .v (.ref m2.t) ∧ WE (stoR K C P q) K E XP ρ m2 ty fun b m3 => m3.t = m2.t ∧ ∃ x y, b = .d (.tuple [.str x, .str y]) ∧ (lkD m3.tab [.inr x, .inr y]).isSome = true ∧ nx ρ { m3 with tab := dropD m3.tab [.inr x, .inr y] }) :
    WS (stoR K C P q) K E XP ρ m (sDDelT td ty) nx rt bk ct := by
  unfold WE at h
  unfold WS
  intro F0 H0 B0 F H B σ D d n r b c
  refine h d _ fun w ra m2 F2 H2 B2 ⟨e2, k2⟩ D2 q2 r2 => ?_
  subst e2
  cases (show w = .ref m2.t from r2)
  refine k2 D2 _ fun u rb m3 F3 H3 B3 ⟨et, x, y, e3, hl, k3⟩ D3 q3 r3 => ?_
  subst e3
  obtain ⟨p, rfl, hp⟩ := key_at D3.st.s r3
  obtain ⟨kvs, h1, h2⟩ := D3.r.2.1
  rw [← et]
  refine ⟨m3.t, kvs, _, p, rfl, h1, rfl, hp, ?_, ?_⟩
  · rcases h2.get [.inr x, .inr y] with ⟨_, e⟩ | ⟨u, dd, e, _⟩
    · rw [e] at hl; cases hl
    · rw [e]; rfl
  · have hs : F3 m3.t := D3.r.2.2.2.2.2.1
    have hB := (D3.r.2.2.2.2.2.2.2.2 _ hs).2
    exact n k3 (D3.step (.putF D3.st.s hs hB) (rel_tab D3.r (h2.drop _))) (q2.b.trans q3.b)
theorem ws_chapp (hC : Cls K C) (hN : NoAttr K C "_changes") (hi : ρ[i]? = some (.v (.ref m.s))) (h : WA (stoR K C P q) K E XP ρ m tr fun rs m1 => ∃ ds, DLo rs = some ds ∧ m1.c = m.c ∧ ∃ x, ds = [x] ∧ m1.chs.length < 90000 ∧ nx ρ { m1 with chs := m1.chs ++ [x] }) :
    WS (stoR K C P q) K E XP ρ m (tDrop (tBM K "list" rAppend (tFld K (tVar i) "_changes") tr)) nx rt bk ct := by
  unfold WS
  intro F0 H0 B0 F H B σ D d n r b c
  obtain ⟨w, h1, h2⟩ := d.s i _ hi
  cases (show w = some (.ref m.s) from h2)
  obtain ⟨dx, h3⟩ := d.r.1
  obtain ⟨us, h4, h5⟩ := d.r.2.2.1
  refine ⟨_, h1, m.s, C, dx, _, _, rfl, h3, hC, hN, rfl, .inl ⟨rfl, _, sql h4⟩, wa_data h d _ fun vs ds m1 F1 H1 B1 ⟨ec, x, e, hl, k1⟩ D1 q1 hd => ?_⟩
  subst e
  cases hd with
  | cons g1 g2 =>
    cases g2
    obtain ⟨us1, h6, h7⟩ := D1.r.2.2.1
    have hs : F1 m1.c := D1.r.2.2.2.2.2.2.1
    have hB := (D1.r.2.2.2.2.2.2.2.2 _ hs).2
    rw [← ec]
    refine ⟨m1.c, us1, _, rfl, rfl, h6, szl (by rw [dqa_len h7]; omega), ?_⟩
    exact n k1 (D1.step (.putF D1.st.s hs hB) (rel_chs D1.r (dqa_app h7 (.cons g1 .nil)))) q1.b
end
/-! ## the store's entry, as a rule -/
theorem clsS {K : PySem.W.Frag} {C P : Addr} {q mm : Str} (h : ∀ m : SM, (fSto m).lookup mm = none) : ClsAt (stoR K C P q) SM.s C mm := fun {m F H B} r => by
  obtain ⟨⟨dx, e⟩, _⟩ := r
  exact ⟨dx, _, e, h m⟩
def spEnt (K : PySem.W.Frag) (C P : Addr) (q : Str) : Sp := spM (stoR K C P q) K SM.s (fun _ ds => ∃ x y, ds = [.str x, .str y]) (fun m ds r m' => m' = m ∧ ∀ x y, ds = [.str x, .str y] → r = .d ((lkD m.tab [.inr x, .inr y]).getD .none)) fun _ _ _ => False
theorem we_ent {K : PySem.W.Frag} {C P : Addr} {q : Str} {E E' : XK} {XP : Addr → SM → Prop} {ρ : List Sl} {m : SM} {k : Rk → SM → Prop} {tr : TA} {i : Nat} (hi : ρ[i]? = some (.v (.ref m.s))) (h : WA (stoR K C P q) K E XP ρ m tr fun rs m1 => ∃ ds, DLo rs = some ds ∧ ∃ x y, ds = [.str x, .str y] ∧ m1.s = m.s ∧ k (.d ((lkD m1.tab [.inr x, .inr y]).getD .none)) m1) :
    WE (stoR K C P q) K E XP ρ m (tMeth C "entry" (spEnt K C P q) [] E' (tVar i) tr) k :=
  we_meth (clsS fun _ => rfl) hi (WA.mono h fun rs m1 ⟨ds, e, x, y, e2, e3, hk⟩ => ⟨ds, e, e3, ⟨x, y, e2⟩, fun _ => id, fun r m2 ⟨e4, e5⟩ => by rw [e4, e5 x y e2]; exact hk⟩)
theorem psK_fldaug {K : PySem.W.Frag} {X : Cx} {o value : Expr} {f : Str} {pos tpos : Pos} {ta tv : TE} {op : Operator} {rd : V → V → Hp → VK → Prop} (h : X.K = K) (ha : PE X o ta) (hv : PE X value tv) (hop : InOp X op rd) : PS X (.AugAssign (.Attribute o f tpos) op value pos) (sFldAug K ta tv rd f) := by subst h; exact ps_fldaug ha hv hop
/-! ## lists that are only read -/
theorem we_varL {M : Type} {R : MR M} {K : PySem.W.Frag} {E : XK} {XP : Addr → M → Prop} {ρ : List Sl} {m : M} {k : Rk → M → Prop} {i : Nat} {xs : List PyData} (h : ρ[i]? = some (.l xs)) (hk : k (.l xs) m) : WE R K E XP ρ m (tVar i) k := by
  unfold WE
  intro F0 H0 B0 F H B σ D Q q
  obtain ⟨w, h1, p, vs, rfl, h2, h4, h5, h6⟩ := D.s i _ h
  exact ⟨_, h1, q _ (.l xs) m _ _ _ hk D (.refl D.st.s) ⟨p, vs, rfl, h2, h4, h6⟩⟩
def argOk : Rk → Bool
  | .d _ => true
  | .l _ => true
  | .v _ => true
  | _ => false
def slA : Rk → Sl
  | .d x => .d x
  | .l xs => .l xs
  | .v x => .v x
  | _ => .u
def asL : Rk → Rk
  | .o xs => .l xs
  | r => r
def spA {M : Type} (R : MR M) (K : PySem.W.Frag) (pre : M → List Rk → Prop) (post : M → List Rk → Rk → M → Prop) : Sp := fun vs H Q _ => ∃ m rs F B, RelA K H F H B vs rs ∧ rs.all argOk = true ∧ Same B H ∧ R.rel m F H B ∧ pre m rs ∧
  ∀ v r m' F' H' B', post m rs r m' → Stq F H B F' H' B' → R.rel m' F' H' B' → RelR K H F' H' B' v r → Q v H'
theorem relA_len {K : PySem.W.Frag} {H0 : Hp} {F : AP} {H B : Hp} : ∀ {vs : List V} {rs : List Rk}, RelA K H0 F H B vs rs → vs.length = rs.length
  | [], [], _ => rfl
  | _ :: _, _ :: _, h => by rw [List.length_cons, List.length_cons, relA_len h.2]
  | [], _ :: _, h => h.elim
  | _ :: _, [], h => h.elim
theorem relA_at {K : PySem.W.Frag} {H0 : Hp} {F : AP} {H B : Hp} : ∀ {vs : List V} {rs : List Rk} {i : Nat} {r : Rk}, RelA K H0 F H B vs rs → rs[i]? = some r → ∃ v, vs[i]? = some v ∧ RelR K H0 F H B v r
  | [], [], _, _, _, e => by cases e
  | v :: _, _ :: _, 0, _, h, e => by cases e; exact ⟨v, rfl, h.1⟩
  | _ :: _, _ :: _, i + 1, _, h, e => relA_at (i := i) h.2 (by simpa using e)
  | [], _ :: _, _, _, h, _ => h.elim
  | _ :: _, [], _, _, h, _ => h.elim
theorem relR_asL {K : PySem.W.Frag} {H0 H1 : Hp} {F : AP} {H B : Hp} {v : V} {r : Rk} (h : RelR K H0 F H B v r) : RelR K H1 F H B v (asL r) := by
  cases r with
  | o xs => obtain ⟨p, vs, rfl, h1, _, h3, _, h5⟩ := h; exact ⟨p, vs, rfl, h1, h3, h5⟩
  | d x => exact h
  | l xs => exact h
  | v x => exact h
  | c x => exact h
theorem relA_asL {K : PySem.W.Frag} {H0 H1 : Hp} {F : AP} {H B : Hp} : ∀ {vs : List V} {rs : List Rk}, RelA K H0 F H B vs rs → RelA K H1 F H B vs (rs.map asL)
  | [], [], _ => True.intro
  | _ :: _, _ :: _, h => ⟨relR_asL h.1, relA_asL h.2⟩
  | [], _ :: _, h => h.elim
  | _ :: _, [], h => h.elim
theorem relR_noF {K : PySem.W.Frag} {H0 : Hp} {F : AP} {H B : Hp} {v : V} {r : Rk} (h : RelR K H0 F H B v r) : RelR K H0 (fun _ => False) H B v r := by
  cases r with
  | o xs => obtain ⟨p, vs, rfl, h1, h2, _, h4, h5⟩ := h; exact ⟨p, vs, rfl, h1, h2, id, h4, h5⟩
  | l xs => obtain ⟨p, vs, rfl, h1, _, h5⟩ := h; exact ⟨p, vs, rfl, h1, id, h5⟩
  | d x => exact h
  | v x => exact h
  | c x => exact h
theorem relA_noF {K : PySem.W.Frag} {H0 : Hp} {F : AP} {H B : Hp} : ∀ {vs : List V} {rs : List Rk}, RelA K H0 F H B vs rs → RelA K H0 (fun _ => False) H B vs rs
  | [], [], _ => True.intro
  | _ :: _, _ :: _, h => ⟨relR_noF h.1, relA_noF h.2⟩
  | [], _ :: _, h => h.elim
  | _ :: _, [], h => h.elim
theorem run_A {M : Type} {R : MR M} {K : PySem.W.Frag} {E : XK} {pre : M → List Rk → Prop} {post : M → List Rk → Rk → M → Prop} {vs : List V} {H : Hp} {Q : VK} {N : List Str} {ts : TS} (h : spA R K pre post vs H Q E) (n : Nat) (hn : N.length - vs.length = n)
    (body : ∀ m rs, pre m rs → WS R K E (fun _ _ => False) (rs.map slA ++ List.replicate n Sl.u) m ts (fun _ m' => post m rs (.d .none) m') (fun r m' => post m rs r m') (fun _ _ => False) (fun _ _ => False)) :
    ts { nx := fun _ H' => Q .non H', rt := Q } (L2.start N vs) H := by
  obtain ⟨m, rs, F, B, hd, ha, hB, hR, hp, q⟩ := h
  have hl := relA_len hd
  have D0 : DS R K E (fun _ _ => False) F H B F H B (L2.start N vs) (rs.map slA ++ List.replicate n Sl.u) m := by
    refine ⟨by unfold L2.start; simp [hl] at hn ⊢; omega, .refl hB, hR, fun i t ht => ?_, fun i j p xs ys h1 => ?_, fun _ _ _ _ _ z => z.elim⟩
    · unfold L2.start
      by_cases hi : i < rs.length
      · rw [List.getElem?_append_left (by rw [List.length_map]; exact hi), List.getElem?_map, List.getElem?_eq_getElem hi] at ht
        cases ht
        obtain ⟨v, h1, h2⟩ := relA_at hd (List.getElem?_eq_getElem hi)
        refine ⟨some v, ?_, ?_⟩
        · rw [List.getElem?_append_left (by rw [List.length_map]; omega), List.getElem?_map, h1]
          rfl
        · generalize rs[i] = r at h2
          cases r with
          | d x => exact ⟨v, rfl, h2⟩
          | l xs => obtain ⟨p, us, rfl, g1, g2, g3⟩ := h2; exact ⟨p, us, rfl, g1, g2, by rw [g1]; simp, g3⟩
          | v x => exact congrArg some h2
          | o xs => exact True.intro
          | c xs => exact True.intro
      · rw [List.getElem?_append_right (by rw [List.length_map]; omega), List.getElem?_replicate] at ht
        split at ht
        · next hc =>
          cases ht
          rw [List.length_map] at hc
          refine ⟨none, ?_, True.intro⟩
          rw [List.getElem?_append_right (by rw [List.length_map]; omega), List.getElem?_replicate, if_pos (by rw [List.length_map]; omega)]
        · cases ht
    · have := List.mem_of_getElem? h1
      rcases List.mem_append.mp this with z | z
      · obtain ⟨x, _, e⟩ := List.mem_map.mp z
        cases x <;> cases e
      · have := (List.mem_replicate.mp z).2; cases this
  have hb := body m rs hp
  unfold WS at hb
  exact hb _ D0 (fun hk D' _ => q .non (.d .none) _ _ _ _ hk D'.st D'.r .non) (fun hk st hF rel => q _ _ _ _ _ _ hk st hF rel) (fun z => z.elim) (fun z => z.elim)
theorem okA {M : Type} {R : MR M} {P : Program} {w : World} {K : PySem.W.Frag} {mg : Str → Option Value} {base : Heap} {x qual : Str} {st : Stmt} {f : Addr} {fd : FuncData} {N ps : List Str} {k : Nat} {pre : M → List Rk → Prop} {post : M → List Rk → Rk → M → Prop}
    (F : Fun K x qual st f fd) (S : FnScope N ps (defScope st)) (n : Nat) (hn : N.length = ps.length + n) (len : ∀ m rs, pre m rs → rs.length = ps.length)
    (hb : ∀ (cdv : Value) (A : Around) (outer : List Env) (s : Shared) (H : Hp) (E : XK), Room k (A.deeper (envOfC qual (defScope st) s.heap.objs.size f cdv)) →
      ∃ t, PSs (cxOf CX0 P w K mg base N qual (defScope st) f cdv A outer s H E).nox (defBody st) t ∧
        ∀ m rs, pre m rs → WS R K E (fun _ _ => False) (rs.map slA ++ List.replicate n Sl.u) m t (fun _ m' => post m rs (.d .none) m') (fun r m' => post m rs r m') (fun _ _ => False) (fun _ _ => False)) : FnOk P w K mg base CX0 (k + 1) f fd ps (spA R K pre post) :=
  F.ok S (fun vs H Q E ⟨m, rs, F, B, hd, _, _, _, hp, _⟩ => by rw [relA_len hd, len m rs hp]) fun cdv A outer s H vs Q E hr h => by
    obtain ⟨t, h1, h2⟩ := hb cdv A outer s H E hr
    refine ⟨t, h1, run_A h n ?_ fun m rs hp => h2 m rs hp⟩
    obtain ⟨m, rs, F, B, hd, _, _, _, hp, _⟩ := h
    rw [relA_len hd, len m rs hp, hn]
    omega
section
variable {M : Type} {R : MR M} {K : PySem.W.Frag} {E : XK} {XP : Addr → M → Prop} {ρ : List Sl} {m : M} {k : Rk → M → Prop} {tr : TA} {E' : XK}
/-- a def of the same state -/
theorem we_callA {pre : M → List Rk → Prop} {post : M → List Rk → Rk → M → Prop} (h : WA R K E XP ρ m tr fun rs m1 => (rs.map asL).all argOk = true ∧ pre m1 (rs.map asL) ∧ ∀ r m2, post m1 (rs.map asL) r m2 → k r m2) : WE R K E XP ρ m (tCall (spA R K pre post) [] E' tr) k := by
  unfold WE WA at *
  intro F0 H0 B0 F H B σ D Q q
  refine h D _ fun vs rs m1 F1 H1 B1 ⟨ha, hp, hk⟩ D1 q1 r1 => ?_
  rw [List.append_nil]
  refine ⟨m1, rs.map asL, F1, B1, relA_asL r1, ha, D1.st.s, D1.r, hp, fun v r m' F' H' B' hr st rl rel => ?_⟩
  exact q v r m' F' H' B' (hk r m' hr) (D1.step st rl) (q1.trans st) (rel.base fun x hx => q1.e x hx)
/-- a def that touches no state -/
theorem we_callN {pre : Unit → List Rk → Prop} {post : Unit → List Rk → Rk → Unit → Prop} (h : WA R K E XP ρ m tr fun rs m1 => (rs.map asL).all argOk = true ∧ pre () (rs.map asL) ∧ ∀ r, post () (rs.map asL) r () → isDo r ∧ k r m1) : WE R K E XP ρ m (tCall (spA noM K pre post) [] E' tr) k := by
  unfold WE WA at *
  intro F0 H0 B0 F H B σ D Q q
  refine h D _ fun vs rs m1 F1 H1 B1 ⟨ha, hp, hk⟩ D1 q1 r1 => ?_
  rw [List.append_nil]
  refine ⟨(), rs.map asL, fun _ => False, B1, relA_noF (relA_asL r1), ha, D1.st.s, fun _ => id, hp, fun v r m' F' H' B' hr st rl rel => ?_⟩
  obtain ⟨hi, hkr⟩ := hk r hr
  have hs : Same H1 H' := fun x o hx => st.k x o hx id
  refine q v r m1 F1 H' B' hkr (D1.pure hs st.b st.s st.f) (q1.trans (.pure hs st.b st.s st.f)) ?_
  cases r with
  | d x => exact rel
  | o xs =>
    obtain ⟨p, us, rfl, g1, g2, _, g4, g5⟩ := rel
    refine ⟨p, us, rfl, g1, g2, fun z => (R.dom D1.r z).1 g4, ?_, g5⟩
    exact Classical.byContradiction fun z => q1.e p z g4
  | l _ => exact hi.elim
  | v _ => exact hi.elim
  | c _ => exact hi.elim
end
/-! ## a state of two parts -/
def prM {M1 M2 : Type} (R1 : MR M1) (R2 : MR M2) : MR (M1 × M2) where
  rel := fun m F H B => ∃ F1 F2, (∀ x, F x ↔ F1 x ∨ F2 x) ∧ (∀ x, F1 x → ¬ F2 x) ∧ R1.rel m.1 F1 H B ∧ R2.rel m.2 F2 H B
  frame := fun {m F H B H' B'} z e s n => by
    obtain ⟨F1, F2, h, d, r1, r2⟩ := z
    exact ⟨F1, F2, h, d, R1.frame r1 (fun x hx => e x ((h x).mpr (.inl hx))) s fun x hx => n x ((h x).mpr (.inl hx)), R2.frame r2 (fun x hx => e x ((h x).mpr (.inr hx))) s fun x hx => n x ((h x).mpr (.inr hx))⟩
  dom := fun ⟨_, _, h, _, r1, r2⟩ hx => ((h _).mp hx).elim (fun z => R1.dom r1 z) fun z => R2.dom r2 z
/-- R1 is a part of R -/
structure Part {M M1 : Type} (R : MR M) (R1 : MR M1) (get : M → M1) (set : M → M1 → M) : Prop where
  on : ∀ {m F H B}, R.rel m F H B → ∃ F1, R1.rel (get m) F1 H B ∧ (∀ x, F1 x → F x) ∧ ∀ m1' F1' H' B', Stq F1 H B F1' H' B' → R1.rel m1' F1' H' B' → ∃ F', R.rel (set m m1') F' H' B' ∧ Stq F H B F' H' B' ∧ ∀ x, F' x → ¬ F1' x → H x ≠ none
theorem Part.refl {M : Type} {R : MR M} : Part R R (fun m => m) (fun _ m => m) := ⟨fun r => ⟨_, r, fun _ h => h, fun _ _ _ _ st r' => ⟨_, r', st, fun _ h n => absurd h n⟩⟩⟩
section
variable {M1 M2 : Type} {R1 : MR M1} {R2 : MR M2}
theorem part_step {F F1 F2 F1' : AP} {H B H' B' : Hp} {m2 : M2} (h : ∀ x, F x ↔ F1 x ∨ F2 x) (d : ∀ x, F1 x → ¬ F2 x) (r2 : R2.rel m2 F2 H B) (st : Stq F1 H B F1' H' B') :
    R2.rel m2 F2 H' B' ∧ (∀ x, F1' x → ¬ F2 x) ∧ Stq F H B (fun x => F1' x ∨ F2 x) H' B' := by
  have hd : ∀ x, F2 x → ¬ F1' x := fun x hx => st.n x (R2.dom r2 hx).1 fun z => d x z hx
  refine ⟨R2.frame r2 (fun x hx => ?_) st.b (fun x hx => st.f x (R2.dom r2 hx).1 (R2.dom r2 hx).2), fun x h1 h2 => hd x h2 h1, ⟨st.b, st.s, st.f, fun x o hx hn => st.k x o hx fun z => hn ((h x).mpr (.inl z)), fun x hx hn z => ?_, st.e⟩⟩
  · obtain ⟨h1, _⟩ := R2.dom r2 hx
    cases e : H x with
    | none => exact absurd e h1
    | some o => exact st.k x o e fun z => d x z hx
  · rcases z with z | z
    · exact st.n x hx (fun y => hn ((h x).mpr (.inl y))) z
    · exact hn ((h x).mpr (.inr z))
theorem Part.left : Part (prM R1 R2) R1 (fun m => m.1) (fun m a => (a, m.2)) := ⟨fun ⟨F1, F2, h, d, r1, r2⟩ => ⟨F1, r1, fun x hx => (h x).mpr (.inl hx), fun m1' F1' H' B' st r' => by
  obtain ⟨g1, g2, g3⟩ := part_step h d r2 st
  exact ⟨_, ⟨F1', F2, fun _ => Iff.rfl, g2, r', g1⟩, g3, fun x hx hn => (R2.dom r2 (hx.resolve_left hn)).1⟩⟩⟩
theorem Part.right : Part (prM R1 R2) R2 (fun m => m.2) (fun m a => (m.1, a)) := ⟨fun ⟨F1, F2, h, d, r1, r2⟩ => ⟨F2, r2, fun x hx => (h x).mpr (.inr hx), fun m1' F1' H' B' st r' => by
  obtain ⟨g1, g2, g3⟩ := part_step (R2 := R1) (m2 := _) (F1 := F2) (F2 := F1) (fun x => (h x).trans or_comm) (fun x a b => d x b a) r1 st
  exact ⟨fun x => F1' x ∨ F1 x, ⟨F1, F1', fun x => ⟨fun z => z.symm, fun z => z.symm⟩, fun x a b => g2 x b a, g1, r'⟩, g3, fun x hx hn => (R1.dom r1 (hx.resolve_left hn)).1⟩⟩⟩
theorem Part.trans {M M3 : Type} {R : MR M} {R3 : MR M3} {g1 : M → M1} {s1 : M → M1 → M} {g2 : M1 → M3} {s2 : M1 → M3 → M1} (a : Part R R1 g1 s1) (b : Part R1 R3 g2 s2) : Part R R3 (fun m => g2 (g1 m)) (fun m x => s1 m (s2 (g1 m) x)) := ⟨fun r => by
  obtain ⟨F1, r1, i1, c1⟩ := a.on r
  obtain ⟨F3, r3, i3, c3⟩ := b.on r1
  refine ⟨F3, r3, fun x hx => i1 x (i3 x hx), fun m' F' H' B' st r' => ?_⟩
  obtain ⟨F4, r4, st4, n4⟩ := c3 m' F' H' B' st r'
  obtain ⟨F5, r5, st5, n5⟩ := c1 _ F4 H' B' st4 r4
  refine ⟨F5, r5, st5, fun x h5 hn => ?_⟩
  by_cases h4 : F4 x
  · exact n4 x h4 hn
  · exact n5 x h5 h4⟩
end
section
variable {M M1 : Type} {R : MR M} {R1 : MR M1} {get : M → M1} {set : M → M1 → M} {K : PySem.W.Frag} {E : XK} {XP : Addr → M → Prop} {ρ : List Sl} {m : M} {k : Rk → M → Prop} {te : TE} {tr : TA} {at_ : M1 → Addr} {pre : M1 → List PyData → Prop} {post : M1 → List PyData → Rk → M1 → Prop} {bad : M1 → List PyData → Addr → Prop}
def notL : Rk → Prop
  | .l _ => False
  | _ => True
/-- a result in a part is one in the whole -/
theorem rel_part {F1' F' : AP} {H H' B' : Hp} {v : V} {r : Rk} (hn : ∀ x, F' x → ¬ F1' x → H x ≠ none) (h : RelR K H F1' H' B' v r) (hl : notL r) : RelR K H F' H' B' v r := by
  cases r with
  | d x => exact h
  | o xs =>
    obtain ⟨p, vs, rfl, g1, g2, g3, g4, g5⟩ := h
    exact ⟨p, vs, rfl, g1, g2, fun z => hn p z g3 g4, g4, g5⟩
  | l xs => exact hl.elim
  | v x => exact h
  | c x => exact h
theorem we_methP (L : Part R R1 get set) {C : Addr} {mm : Str} {E' : XK} {i : Nat} (hc : ClsAt R1 at_ C mm) (hi : ρ[i]? = some (.v (.ref (at_ (get m)))))
    (h : WA R K E XP ρ m tr fun rs m1 => ∃ ds, DLo rs = some ds ∧ at_ (get m1) = at_ (get m) ∧ pre (get m1) ds ∧ (∀ D, ¬ bad (get m1) ds D) ∧ ∀ r m2, post (get m1) ds r m2 → notL r ∧ k r (set m1 m2)) : WE R K E XP ρ m (tMeth C mm (spM R1 K at_ pre post bad) [] E' (tVar i) tr) k := by
  unfold WE
  intro F0 H0 B0 F H B σ D Q q
  obtain ⟨w, h1, h2⟩ := D.s i _ hi
  cases (show w = some (.ref (at_ (get m))) from h2)
  obtain ⟨F1, r1, _, _⟩ := L.on D.r
  obtain ⟨dx, fs, h3, h4⟩ := hc r1
  refine ⟨_, h1, at_ (get m), dx, fs, rfl, h3, h4, wa_data h D _ fun vs ds m1 F1 H1 B1 ⟨ea, hp, hn, hk⟩ D1 q1 hd => ?_⟩
  obtain ⟨F2, r2, i2, c2⟩ := L.on D1.r
  refine ⟨get m1, vs, ds, F2, B1, by rw [List.append_nil, ea], hd, D1.st.s, r2, hp, fun v r m' F' H' B' hr st rl rel => ?_, fun C F' H' B' hb => absurd hb (hn C)⟩
  obtain ⟨F3, r3, st3, n3⟩ := c2 m' F' H' B' st rl
  obtain ⟨nl, hkr⟩ := hk r m' hr
  exact q v r _ F3 H' B' hkr (D1.step st3 r3) (q1.trans st3) ((rel_part n3 rel nl).base fun x hx => q1.e x hx)
/-- a field of the thing of a part -/
theorem we_fldP (L : Part R R1 get set) {C : Addr} {f : Str} {v : V} {i : Nat} (hC : Cls K C) (hN : NoAttr K C f) (hi : ρ[i]? = some (.v (.ref (at_ (get m)))))
    (hf : ∀ {F H B}, R1.rel (get m) F H B → ∃ dx fs, H (at_ (get m)) = some (.ins C dx fs) ∧ fs.lookup f = some v) (hs : isSc v = true) (hk : k (.d (sc v)) m) : WE R K E XP ρ m (tFld K (tVar i) f) k := by
  unfold WE
  intro F0 H0 B0 F H B σ D Q q
  obtain ⟨w, h1, h2⟩ := D.s i _ hi
  cases (show w = some (.ref (at_ (get m))) from h2)
  obtain ⟨F1, r1, _, _⟩ := L.on D.r
  obtain ⟨dx, fs, h3, h4⟩ := hf r1
  exact ⟨_, h1, at_ (get m), C, dx, fs, v, rfl, h3, hC, hN, h4, q v (.d (sc v)) m _ _ _ hk D (.refl D.st.s) (dq_sc hs)⟩
/-- a def of a part, seen by the whole -/
theorem we_callAP (L : Part R R1 get set) {E' : XK} {preA : M1 → List Rk → Prop} {postA : M1 → List Rk → Rk → M1 → Prop} (h : WA R K E XP ρ m tr fun rs m1 => (rs.map asL).all argOk = true ∧ preA (get m1) (rs.map asL) ∧ ∀ r m2, postA (get m1) (rs.map asL) r m2 → notL r ∧ k r (set m1 m2)) : WE R K E XP ρ m (tCall (spA R1 K preA postA) [] E' tr) k := by
  unfold WE WA at *
  intro F0 H0 B0 F H B σ D Q q
  refine h D _ fun vs rs m1 F1 H1 B1 ⟨ha, hp, hk⟩ D1 q1 r1 => ?_
  rw [List.append_nil]
  obtain ⟨F2, r2, i2, c2⟩ := L.on D1.r
  have hA : ∀ {vs : List V} {rs : List Rk}, RelA K H F1 H1 B1 vs rs → RelA K H1 F2 H1 B1 vs (rs.map asL) := fun {vs rs} => by
    induction rs generalizing vs with
    | nil => intro h; cases vs <;> first | exact True.intro | exact h.elim
    | cons r rs ih =>
      intro h
      cases vs with
      | nil => exact h.elim
      | cons v vs =>
        refine ⟨?_, ih h.2⟩
        have h1 := h.1
        cases r with
        | d x => exact h1
        | o xs => obtain ⟨p, us, rfl, g1, _, g3, _, g5⟩ := h1; exact ⟨p, us, rfl, g1, fun z => g3 (i2 p z), g5⟩
        | l xs => obtain ⟨p, us, rfl, g1, g3, g5⟩ := h1; exact ⟨p, us, rfl, g1, fun z => g3 (i2 p z), g5⟩
        | v x => exact h1
        | c x => exact h1
  refine ⟨get m1, rs.map asL, F2, B1, hA r1, ha, D1.st.s, r2, hp, fun v r m' F' H' B' hr st rl rel => ?_⟩
  obtain ⟨F3, r3, st3, n3⟩ := c2 m' F' H' B' st rl
  obtain ⟨nl, hkr⟩ := hk r m' hr
  exact q v r _ F3 H' B' hkr (D1.step st3 r3) (q1.trans st3) ((rel_part n3 rel nl).base fun x hx => q1.e x hx)
end
/-! ## a part that begins in the middle -/
section
variable {M1 M2 : Type} {R1 : MR M1} {R2 : MR M2} {K : PySem.W.Frag} {E : XK} {XP : Addr → M1 → Prop} {ρ : List Sl} {m : M1} {m2 : M2} {F0 F : AP} {H0 B0 H B : Hp} {σ : L2.St}
/-- the second part is forgotten -/
theorem DS.fst {XP' : Addr → M1 × M2 → Prop} (D : DS (prM R1 R2) K E XP' F0 H0 B0 F H B σ ρ (m, m2)) (hx : ∀ C m' F' H' B', XP C m' → Stq F0 H0 B0 F' H' B' → R1.rel m' F' H' B' → E (.ref C) none H') : ∃ F1, DS R1 K E XP F0 H0 B0 F1 H B σ ρ m := by
  obtain ⟨F1, F2, h, d, r1, r2⟩ := D.r
  have sub : ∀ x, F1 x → F x := fun x z => (h x).mpr (.inl z)
  refine ⟨F1, D.l, ⟨D.st.b, D.st.s, D.st.f, D.st.k, fun x hx hn z => D.st.n x hx hn (sub x z), D.st.e⟩, r1, fun i t ht => ?_, D.oo, hx⟩
  obtain ⟨w, h1, h2⟩ := D.s i t ht
  refine ⟨w, h1, ?_⟩
  cases t with
  | u => exact True.intro
  | d x => exact h2
  | o xs => obtain ⟨p, vs, rfl, g1, g2, g3, g4, g5⟩ := h2; exact ⟨p, vs, rfl, g1, g2, fun z => g3 (sub p z), g4, g5⟩
  | v x => exact h2
  | l xs => obtain ⟨p, vs, rfl, g1, g3, g4, g5⟩ := h2; exact ⟨p, vs, rfl, g1, fun z => g3 (sub p z), g4, g5⟩
theorem rel_fst {F' F1 : AP} {H' B' : Hp} {v : V} {r : Rk} (sub : ∀ x, F1 x → F' x) (h : RelR K H0 F' H' B' v r) : RelR K H0 F1 H' B' v r := by
  cases r with
  | d x => exact h
  | o xs => obtain ⟨p, vs, rfl, g1, g2, g3, g4, g5⟩ := h; exact ⟨p, vs, rfl, g1, g2, fun z => g3 (sub p z), g4, g5⟩
  | l xs => obtain ⟨p, vs, rfl, g1, g3, g5⟩ := h; exact ⟨p, vs, rfl, g1, fun z => g3 (sub p z), g5⟩
  | v x => exact h
  | c x => exact h
/-- what follows knows of a second part, made since the def began -/
theorem ws_part {u : TS} {nx bk ct : List Sl → M1 → Prop} {rt : Rk → M1 → Prop} (body : WS (prM R1 R2) K E (fun C x => XP C x.1) ρ (m, m2) u (fun ρ' x => nx ρ' x.1) (fun r x => rt r x.1) (fun ρ' x => bk ρ' x.1) (fun ρ' x => ct ρ' x.1))
    (Ds : Ends) {F2 : AP} (D : DS R1 K E XP F0 H0 B0 F H B σ ρ m) (r2 : R2.rel m2 F2 H B) (h0 : ∀ x, F2 x → H0 x = none) (hF : ∀ x, F2 x → ¬ F x) (hL : ∀ x xs, F2 x → H x ≠ some (.lst xs))
    (n : ∀ {σ' ρ' m' F' H' B'}, nx ρ' m' → DS R1 K E XP F0 H0 B0 F' H' B' σ' ρ' m' → Same B B' → Ds.nx σ' H')
    (rr : ∀ {v r m' F' H' B'}, rt r m' → Stq F0 H0 B0 F' H' B' → R1.rel m' F' H' B' → RelR K H0 F' H' B' v r → Ds.rt v H')
    (bb : ∀ {σ' ρ' m' F' H' B'}, bk ρ' m' → DS R1 K E XP F0 H0 B0 F' H' B' σ' ρ' m' → Same B B' → Ds.bk σ' H')
    (cc : ∀ {σ' ρ' m' F' H' B'}, ct ρ' m' → DS R1 K E XP F0 H0 B0 F' H' B' σ' ρ' m' → Same B B' → Ds.ct σ' H') : u Ds σ H := by
  have hs : ∀ (p : Addr) (vs : List V), H p = some (.lst vs) → ¬ F p → ¬ (F p ∨ F2 p) := fun p vs e n z => z.elim n fun z => hL p vs z e
  have DD : DS (prM R1 R2) K E (fun C x => XP C x.1) F0 H0 B0 (fun x => F x ∨ F2 x) H B σ ρ (m, m2) := by
    refine ⟨D.l, ⟨D.st.b, D.st.s, D.st.f, D.st.k, fun x hx hn z => z.elim (D.st.n x hx hn) fun z => hx (h0 x z), D.st.e⟩, ⟨F, F2, fun _ => Iff.rfl, fun x a b => hF x b a, D.r, r2⟩, fun i t ht => ?_, D.oo, fun C x F' H' B' hx st rl => ?_⟩
    · obtain ⟨w, h1, h2⟩ := D.s i t ht
      refine ⟨w, h1, ?_⟩
      cases t with
      | u => exact True.intro
      | d x => exact h2
      | o xs => obtain ⟨p, vs, rfl, g1, g2, g3, g4, g5⟩ := h2; exact ⟨p, vs, rfl, g1, g2, hs p vs g1 g3, g4, g5⟩
      | v x => exact h2
      | l xs => obtain ⟨p, vs, rfl, g1, g3, g4, g5⟩ := h2; exact ⟨p, vs, rfl, g1, hs p vs g1 g3, g4, g5⟩
    · obtain ⟨F1, F2', h, d, r1, _⟩ := rl
      exact D.x C x.1 F1 H' B' hx ⟨st.b, st.s, st.f, st.k, fun y hy hn z => st.n y hy hn ((h y).mpr (.inl z)), st.e⟩ r1
  unfold WS at body
  refine body Ds DD (fun {σ' ρ' m' F' H' B'} hk D' s' => ?_) (fun {v r m' F' H' B'} hk st rl rel => ?_) (fun {σ' ρ' m' F' H' B'} hk D' s' => ?_) (fun {σ' ρ' m' F' H' B'} hk D' s' => ?_)
  · obtain ⟨F1, D1⟩ := D'.fst (XP := XP) D.x
    exact n hk D1 s'
  · obtain ⟨F1, F2', h, d, r1, _⟩ := rl
    have sub : ∀ x, F1 x → F' x := fun x z => (h x).mpr (.inl z)
    exact rr hk ⟨st.b, st.s, st.f, st.k, fun y hy hn z => st.n y hy hn (sub y z), st.e⟩ r1 (rel_fst sub rel)
  · obtain ⟨F1, D1⟩ := D'.fst (XP := XP) D.x
    exact bb hk D1 s'
  · obtain ⟨F1, D1⟩ := D'.fst (XP := XP) D.x
    exact cc hk D1 s'
end
/-! ## a dict of the law's own: keys texts or ints, values data -/
abbrev KD := List (Key × PyData)
inductive KRel (K : PySem.W.Frag) (B : Hp) : List (Key × V) → KD → Prop
  | nil : KRel K B [] []
  | cons {k : Key} {v : V} {d : PyData} {us : List (Key × V)} {ks : KD} : Dq K B v d → KRel K B us ks → KRel K B ((k, v) :: us) ((k, d) :: ks)
def lkK (ks : KD) (k : Key) : Option PyData := (ks.find? fun z => decide (z.1 = k)).map Prod.snd
def putKD (ks : KD) (k : Key) (d : PyData) : KD := if (ks.any fun z => decide (z.1 = k)) = true then ks.map (fun z => if z.1 = k then (z.1, d) else z) else ks ++ [(k, d)]
def mergeD (ks more : KD) : KD := more.foldl (fun acc z => putKD acc z.1 z.2) ks
section
variable {K : PySem.W.Frag} {B B' : Hp}
theorem KRel.same (s : Same B B') : ∀ {us : List (Key × V)} {ks : KD}, KRel K B us ks → KRel K B' us ks
  | _, _, .nil => .nil
  | _, _, .cons h t => .cons (dq_same s _ h) (t.same s)
theorem KRel.length : ∀ {us : List (Key × V)} {ks : KD}, KRel K B us ks → us.length = ks.length
  | _, _, .nil => rfl
  | _, _, .cons _ t => by rw [List.length_cons, List.length_cons, t.length]
theorem KRel.keys : ∀ {us : List (Key × V)} {ks : KD}, KRel K B us ks → us.map Prod.fst = ks.map Prod.fst
  | _, _, .nil => rfl
  | _, _, .cons _ t => by rw [List.map_cons, List.map_cons, t.keys]
theorem KRel.get (k : Key) : ∀ {us : List (Key × V)} {ks : KD}, KRel K B us ks → (valV us k = none ∧ lkK ks k = none) ∨ ∃ v d, valV us k = some v ∧ lkK ks k = some d ∧ Dq K B v d
  | _, _, .nil => .inl ⟨rfl, rfl⟩
  | _, _, .cons (k := k') (v := v) (d := d) h t => by
    unfold valV lkK
    rw [List.find?_cons, List.find?_cons]
    by_cases e : k' = k
    · rw [decide_eq_true e]
      exact .inr ⟨v, d, rfl, rfl, h⟩
    · rw [decide_eq_false e]
      exact t.get k
theorem KRel.has (k : Key) : ∀ {us : List (Key × V)} {ks : KD}, KRel K B us ks → (us.any fun z => decide (z.1 = k)) = (ks.any fun z => decide (z.1 = k))
  | _, _, .nil => rfl
  | _, _, .cons _ t => by rw [List.any_cons, List.any_cons, t.has k]
theorem KRel.app {k : Key} {v : V} {d : PyData} (h : Dq K B v d) : ∀ {us : List (Key × V)} {ks : KD}, KRel K B us ks → KRel K B (us ++ [(k, v)]) (ks ++ [(k, d)])
  | _, _, .nil => .cons h .nil
  | _, _, .cons a t => .cons a (t.app h)
theorem KRel.set {k : Key} {v : V} {d : PyData} (h : Dq K B v d) : ∀ {us : List (Key × V)} {ks : KD}, KRel K B us ks → KRel K B (us.map fun z => if z.1 = k then (z.1, v) else z) (ks.map fun z => if z.1 = k then (z.1, d) else z)
  | _, _, .nil => .nil
  | _, _, .cons (k := k') a t => by
    rw [List.map_cons, List.map_cons]
    by_cases e : k' = k
    · rw [if_pos e, if_pos e]; exact .cons h (t.set h)
    · rw [if_neg e, if_neg e]; exact .cons a (t.set h)
theorem KRel.put {us : List (Key × V)} {ks : KD} (t : KRel K B us ks) (k : Key) {v : V} {d : PyData} (h : Dq K B v d) : KRel K B (putK us k v) (putKD ks k d) := by
  unfold putK putKD
  rw [t.has k]
  split
  · exact t.set h
  · exact t.app h
theorem KRel.merge : ∀ {ws : List (Key × V)} {ms : KD} {us : List (Key × V)} {ks : KD}, KRel K B ws ms → KRel K B us ks → KRel K B (mergeK us ws) (mergeD ks ms)
  | _, _, _, _, .nil, h => h
  | _, _, _, _, .cons (k := c) a t, h => by
    have z := KRel.merge t (h.put c a)
    exact z
end
def dicR (K : PySem.W.Frag) : MR (Addr × KD) where
  rel := fun m F H B => (∃ us, H m.1 = some (.dK us) ∧ KRel K B us m.2) ∧ (∀ x, F x ↔ x = m.1) ∧ B m.1 = none
  frame := fun {m F H B H' B'} ⟨⟨us, h1, h2⟩, h3, h4⟩ e s n => ⟨⟨us, by rw [e _ ((h3 _).mpr rfl)]; exact h1, h2.same s⟩, h3, n _ ((h3 _).mpr rfl)⟩
  dom := fun {m F H B x} ⟨⟨us, h1, _⟩, h3, h4⟩ hx => by rw [(h3 x).mp hx]; exact ⟨by rw [h1]; simp, h4⟩
section
variable {M : Type} {R : MR M} {K : PySem.W.Frag} {E : XK} {XP : Addr → M → Prop} {ρ : List Sl} {m : M} {k : Rk → M → Prop} {te td ty : TE}
/-- the pairs of a dict that is written down -/
@[irreducible] def WPs (R : MR M) (K : PySem.W.Frag) (E : XK) (XP : Addr → M → Prop) (ρ : List Sl) (m : M) (trs : List (TE × TE)) (k : KD → M → Prop) : Prop := ∀ {F0 H0 B0 F H B σ}, DS R K E XP F0 H0 B0 F H B σ ρ m → ∀ Q : List (V × V) → Hp → Prop,
  (∀ us ks m' F' H' B', k ks m' → DS R K E XP F0 H0 B0 F' H' B' σ ρ m' → Stq F H B F' H' B' → KRel K B' us ks → Q (us.map fun z => (kV z.1, z.2)) H') → tPairs trs σ H Q
theorem wp_nil {k : KD → M → Prop} (hk : k [] m) : WPs R K E XP ρ m [] k := by with_unfolding_all exact (fun D Q q => q [] [] m _ _ _ hk D (.refl D.st.s) .nil)
def kOf : PyData → Key
  | .int i => .inl i
  | .str z => .inr z
  | _ => .inl 0
def isKd : PyData → Bool
  | .int _ => true
  | .str _ => true
  | _ => false
theorem kOf_v {B : Hp} {v : V} {d : PyData} (h : Dq K B v d) (e : isKd d = true) : v = kV (kOf d) := by
  cases h <;> first | rfl | cases e
theorem wp_cons {trs : List (TE × TE)} {k : KD → M → Prop} (h : WE R K E XP ρ m td fun a m1 => ∃ d, a = .d d ∧ isKd d = true ∧ WE R K E XP ρ m1 te fun b m2 => ∃ x, b = .d x ∧ WPs R K E XP ρ m2 trs fun ks m3 => k ((kOf d, x) :: ks) m3) : WPs R K E XP ρ m ((td, te) :: trs) k := by with_unfolding_all exact (fun D Q q =>
  h D _ fun v a m1 F1 H1 B1 ⟨d, e1, e2, k1⟩ D1 q1 r1 => by
    subst e1
    obtain rfl := kOf_v r1 e2
    exact k1 D1 _ fun w b m2 F2 H2 B2 ⟨x, e3, k2⟩ D2 q2 r2 => by
      subst e3
      exact k2 D2 _ fun us ks m3 F3 H3 B3 k3 D3 q3 r3 => q ((kOf d, w) :: us) ((kOf d, x) :: ks) m3 F3 H3 B3 k3 D3 ((q1.trans q2).trans q3) (.cons (dq_same q3.b _ r2) r3))
/-- name = {..}: what follows knows the dict -/
theorem ws_dict {trs : List (TE × TE)} {u : TS} {i : Nat} {nx bk ct : List Sl → M → Prop} {rt : Rk → M → Prop} (h : WPs R K E XP ρ m trs fun ks m1 => ks.length ≤ 15 ∧ ∀ p, WS (prM R (dicR K)) K E (fun C x => XP C x.1) (ρ.set i (.v (.ref p))) (m1, (p, mergeD [] ks)) u (fun ρ' x => nx ρ' x.1) (fun r x => rt r x.1) (fun ρ' x => bk ρ' x.1) (fun ρ' x => ct ρ' x.1)) :
    WS R K E XP ρ m (tSeq (tAsg (tDisp trs) (gName i)) u) nx rt bk ct := by
  unfold WPs at h
  unfold WS
  intro F0 H0 B0 F H B σ Ds D n r b c
  intro p hp
  have hp0 : H0 p = none := Classical.byContradiction fun z => D.st.e p z hp
  refine h (D.newO (o := .dK []) hp) _ fun us ks m1 F1 H1 B1 ⟨hl, body⟩ D1 q1 hk => ?_
  have e1 : upd H p (.dK []) p = some (.dK []) := upd_same
  have nF : ¬ F p := D.nF hp
  have hb : B p = none := b_none D.st.s hp
  have g1 := q1.k _ _ e1 nF
  have g2 := q1.f p (by rw [e1]; simp) hb
  have g3 := q1.n p (by rw [e1]; simp) nF
  refine ⟨g1, us, rfl, by rw [hk.length]; exact hl, ?_⟩
  have hn : ∀ (i : Nat) (xs : List PyData), ρ[i]? = some (.o xs) → σ[i]? ≠ some (some (.ref p)) := fun i xs z w => by
    obtain ⟨w', w1, pp, vs, rfl, w2, _⟩ := D.s i _ z
    rw [w] at w1
    cases w1
    rw [hp] at w2
    cases w2
  have D2 : DS R K E XP F0 H0 B0 F1 (upd H1 p (.dK (mergeK [] us))) B1 σ ρ m1 := D1.putN g2 g3 hp0 hn
  have D3 : DS R K E XP F0 H0 B0 F1 (upd H1 p (.dK (mergeK [] us))) B1 (σ.set i (some (.ref p))) (ρ.set i (.v (.ref p))) m1 := D2.setW i rfl fun _ _ z => by cases z
  refine ws_part (R2 := dicR K) (m2 := (p, mergeD [] ks)) (body p) Ds D3 (F2 := fun x => x = p) ⟨⟨_, upd_same, KRel.merge hk .nil⟩, fun _ => Iff.rfl, g2⟩ (fun x hx => by rw [hx]; exact hp0) (fun x hx => by rw [hx]; exact g3) (fun x xs hx e => by rw [hx, upd_same] at e; cases e) (fun hk' D' s' => n hk' D' (q1.b.trans s')) r (fun hk' D' s' => b hk' D' (q1.b.trans s')) (fun hk' D' s' => c hk' D' (q1.b.trans s'))
/-- d[k] of such a dict -/
theorem we_dgetK {get : M → Addr × KD} {set : M → Addr × KD → M} (L : Part R (dicR K) get set) (h : WE R K E XP ρ m td fun a m1 => a = .v (.ref (get m1).1) ∧ WE R K E XP ρ m1 ty fun b m2 => (get m2).1 = (get m1).1 ∧ ∃ d, b = .d d ∧ isKd d = true ∧ ∃ x, lkK (get m2).2 (kOf d) = some x ∧ k (.d x) m2) : WE R K E XP ρ m (tDGet td ty) k := by
  unfold WE at h ⊢
  intro F0 H0 B0 F H B σ D Q q
  refine h D _ fun v a m1 F1 H1 B1 ⟨e1, k1⟩ D1 q1 r1 => ?_
  subst e1
  cases (show v = .ref (get m1).1 from r1)
  refine k1 D1 _ fun w b m2 F2 H2 B2 ⟨e2, d, e3, e4, x, e5, k2⟩ D2 q2 r2 => ?_
  subst e3
  obtain rfl := kOf_v r2 e4
  obtain ⟨F3, ⟨⟨us, g1, g2⟩, _⟩, _⟩ := L.on D2.r
  rcases g2.get (kOf d) with ⟨_, z⟩ | ⟨u, d', z1, z2, z3⟩
  · rw [e5] at z; cases z
  · rw [e5] at z2
    cases z2
    refine ⟨(get m1).1, u, rfl, ?_, q u (.d x) m2 F2 H2 B2 k2 D2 (q1.trans q2) z3⟩
    rw [← z1]
    rw [e2] at g1
    exact DGet.k g1
end
end My
namespace My
open PySem PySem.Spec PyProof.Rows L2
/-! # sorted(t, key=lambda m: m[:2]) -/
section
open PySem.W PyProof.Rows HT
variable {prog : Program} {w : World} {B : Around} {s : Shared}
/-- the lambda's call: a new tuple of the first two, or the tuple itself -/
theorem lam_run {f c' a : Addr} {q x : Str} {params : Arguments} {scope : Scope} {pm ctv : Value} {p1 p2 p3 p4 : Pos} {j : _} {its : Array Value}
    (hroom : B.depth < recursionLimit) (lim : s.heap.NoLimit)
    (hf : s.heap.get? f = some (kla_obj "<lambda>" q params (.Subscript (.Name x p1) (.Slice none (some (.Constant (.int 2) j p2)) none p3) p4) scope [] pm c' ctv))
    (hcd : s.heap.CodeRec (.ref c') q) (hbind : ∀ u, bindArgs (kla_fn "<lambda>" q params (.Subscript (.Name x p1) (.Slice none (some (.Constant (.int 2) j p2)) none p3) p4) scope [] pm (.ref c') ctv) ⟨[u], []⟩ = pure [(x, u)])
    (hnm : scope.names = [(x, .local)]) (hk : scope.kind = .function) (hco : scope.isCoroutine = false) (hgen : scope.isGenerator = false) (hdb : (x == ("__debug__" : Str)) = false)
    (ht : IsTup s.heap a its) (hsz : its.size ≤ sizeLine) {Q : Value → Shared → Prop}
    (hQ : ∀ h' tk, (∀ b o, s.heap.get? b = some o → h'.get? b = some o) →
      (∀ r, (r = a ∧ its.size ≤ 2) ∨ (IsTup h' r (its.toList.take 2).toArray) → Q (.ref r) { s with heap := h', toks := tk })) :
    wpAny (model prog w) B (call (.ref f) [.ref a]) Q (fun _ _ => False) s := by
  refine wpAny_call ?_
  refine kla_callFunE hroom hf rfl hco hgen rfl hcd ?_
  rw [hbind]
  refine wpAny_pure (wpAny_newFunctionEnv (fun y hy => ?_) (fun y hy => ?_) (fun h₁ hns hsb => ⟨lim.fresh _ hsb, ?_⟩) hk)
  · rw [hnm] at hy
    rw [List.mem_singleton.mp hy]
    exact fun z => NameKind.noConfusion z
  · rw [List.mem_singleton.mp hy, hnm]
    simp
  have hk₁ : ∀ b o, s.heap.get? b = some o → h₁.get? b = some o := fun b o e =>
    hsb.extBut b o (Nat.ne_of_lt (Heap.lt_size e)) (Heap.get?_push_of_some _ e)
  refine kla_codeExpr ?_
  refine Subscript_ (wpAny_Name (wpAny_loadName_local hk (show scope.names.lookup x = some .local by rw [hnm]; simp) hns (show List.lookup x [(x, Value.ref a)].reverse = some (.ref a) by simp) ?_) hdb)
  refine wpAny_Slice ?_
  rw [evalPart_none]
  refine wpAny_pure ?_
  show wpAny _ _ (eval (.Constant (.int 2) j p2) _) _ _ _
  refine wpAny_Constant_int ?_
  refine wpAny_pure ?_
  generalize hsl : h₁.push { cls := .type "slice", data := .fields #[Value.none, Value.int 2 (s.toks + [(x, Value.ref a)].length), Value.none] } = h₂
  have e1 : ∀ b o, h₁.get? b = some o → h₂.get? b = some o := fun b o e => by rw [← hsl]; exact Heap.get?_push_of_some _ e
  have ht2 : IsTup h₂ a its := by
    obtain ⟨o, h1, h2⟩ := ht
    exact ⟨o, e1 _ _ (hk₁ _ _ h1), h2⟩
  have hS : h₂.IsSliceOf h₁.objs.size .none (.int 2 (s.toks + [(x, Value.ref a)].length)) .none := by rw [← hsl]; exact Heap.IsSliceOf.new ..
  have keep : ∀ b o, s.heap.get? b = some o → h₂.get? b = some o := fun b o e => e1 _ _ (hk₁ _ _ e)
  refine tail_any (T := "tuple") (ops := [.ref h₁.objs.size, .ref a]) ht2.typeIs PyProof.Rows.slot_tuple_getitem.lookup ?_ (by with_unfolding_all rfl)
  by_cases hw : sIx its.size 0 none = 0 ∧ sIx its.size its.size (some 2) = its.size
  · refine getItem_tuple_whole ht2 hS .none (.int 2 _) hw ?_
    refine hQ h₂ _ keep a (.inl ⟨rfl, ?_⟩)
    have h2 := hw.2
    rw [show (some 2 : Option Int) = some ((2 : Nat) : Int) from rfl, sIx_nat] at h2
    omega
  · refine getItem_tuple_cut ht2 hS .none (.int 2 _) hw ?_ hsz
    have e2 : sIx its.size its.size (some 2) - sIx its.size 0 none = min 2 its.size := by
      rw [show (some 2 : Option Int) = some ((2 : Nat) : Int) from rfl, sIx_nat]; rfl
    rw [e2]
    show Q _ { s with heap := _, toks := _ }
    refine hQ _ _ (fun b o e => Heap.get?_push_of_some _ (keep b o e)) _ (.inr ?_)
    have e3 : (its.toList.drop (sIx its.size 0 none)).take (min 2 its.size) = its.toList.take 2 := by
      show (its.toList.drop 0).take _ = _
      rw [List.drop_zero]
      by_cases h : 2 ≤ its.size
      · rw [Nat.min_eq_left h]
      · rw [Nat.min_eq_right (by omega), List.take_of_length_le (by simp), List.take_of_length_le (by simp; omega)]
    rw [e3]
    exact IsTup.new _ _
end
section
open PySem.W PyProof.Rows HT
variable {prog : Program} {w : World} {A : Around} {E : Value → Shared → Prop} {s : Shared}
/-- the heap behind the gathering of a tuple's items us -/
def gath (g : Heap) (us : List Value) : Heap := (g.push (seqObj "list" #[] 0)).update g.objs.size (Obj.mapSeq (· ++ us.toArray))
theorem gath_size (g : Heap) (us : List Value) : (gath g us).objs.size = g.objs.size + 1 := (Heap.size_update ..).trans (size_push' ..)
theorem tup_gather {t : Addr} {us : List Value} {R : List Value → Shared → Prop} (ht : IsTup s.heap t us.toArray) (hn : us.length ≤ sizeLine) (hR : R us { s with heap := gath s.heap us }) :
    wpAny (model prog w) A (collect (.ref t)) R E s := by
  obtain ⟨ob, e1, e2, m, e3⟩ := id ht
  have f1 := Heap.get?_push_of_some (seqObj "list" #[] 0) e1
  have f2 : (s.heap.push (seqObj "list" #[] 0)).get? s.heap.objs.size = some (seqObj "list" #[] 0) := Heap.get?_push_size _ rfl
  unfold collect
  refine wpAny_bind (wpAny_runValue (codeAny_builtin entry_proto_collect' ?_)); show wpAny _ _ (do again (.builtin "list.__iadd__" ⟨[← newList [], .ref t], []⟩)) _ _ s
  refine wpAny_bind (wpAny_newList (wpAny_pure ⟨Code.quiet_builtin _ (by decide +kernel), codeAny_builtin entry_list_iadd' ?_⟩)); show wpAny _ _ (Builtin.List.listExtendWith (.ref s.heap.objs.size) (.ref t) _) _ _ _
  unfold Builtin.List.listExtendWith
  refine wpAny_bind (wpAny_typeOf (T := "tuple") ⟨ob, f1, e2⟩ ?_)
  rw [if_pos (by rw [show (Value.type "tuple" == Value.type "tuple") = true from rfl]; simp)]
  refine wpAny_bind (listItems_at f1 e3 (wpAny_bind (listItems_at (xs := #[]) (n := 0) f2 rfl ?_)))
  rw [if_neg (by simp)]
  refine wpAny_bind (listUpdate_at (xs := #[]) (n := 0) f2 rfl ?_ (Nat.zero_le _) (by show (#[] ++ us.toArray).size ≤ sizeLine + 1; rw [Array.size_append, List.size_toArray]; show 0 + us.length ≤ _; omega))
  refine wpAny_pure (wpAny_bind (wpAny_load (get?_update_seq f2 _) ?_))
  show wpAny _ _ (pure ((#[] : Array Value) ++ us.toArray).toList) R E { s with heap := gath s.heap us }
  simp only [Array.empty_append]
  exact wpAny_pure hR
/-- sorted(t, key=f) of a tuple t: f's calls keep what stands -/
theorem sorted_key_tup {β : Type} {us : List Value} {bs : List β} {R : Value → β → Prop} {t f : Addr} {Q : Value → Shared → Prop} (k : β → PyData) (ht : IsTup s.heap t us.toArray) (e : EachIs R us bs) (hal : AllAlike (bs.map k)) (hk : Sortable (bs.map k)) (hL : bs.length ≤ sizeLine)
    (hu : ∀ x ∈ bs, A.in1.in1.units + (k x).depth < cLine)
    (turn : ∀ v x, R v x → x ∈ bs → ∀ g tk, (∀ b o, s.heap.get? b = some o → g.get? b = some o) → wpAny (model prog w) A.in1.in1 (call (.ref f) [v]) (KeyPure (k x) { s with heap := g, toks := tk }) (fun _ _ => False) { s with heap := g, toks := tk })
    (fin : ∀ out c g tk, (∀ b o, s.heap.get? b = some o → g.get? b = some o) → g.get? (s.heap.objs.size + 1) = some (seqObj "list" (List.toArray out) c) → EachIs R out (bs.mergeSort (dataLe false k)) → Q (.ref (s.heap.objs.size + 1)) { s with heap := g, toks := tk }) :
    wpAny (model prog w) A (call (.builtin "sorted") [.ref t] [(Str.ofString "key", .ref f)]) Q E s := by
  have hn : us.length ≤ sizeLine := e.length ▸ hL
  have hnb : (bs.map k).length = us.length := (List.length_map _).trans e.length.symm
  have at1 : (copyHeap s.heap us).get? (s.heap.objs.size + 1) = some (seqObj "list" us.toArray 0) := copyHeap_at s.heap us
  have grow : ∀ {g}, KeepsBut (s.heap.objs.size + 1) (copyHeap s.heap us) g → ∀ b o, s.heap.get? b = some o → g.get? b = some o := fun kp b o q => kp b o (Nat.ne_of_lt (Nat.lt_trans (Heap.lt_size q) (Nat.lt_succ_self _))) (copyHeap_old q)
  refine call_function_entry_kw kind_sorted plain_sorted entry_sorted (ksk_s1 _ _) ?_
  unfold Builtin.«sorted»
  refine wpAny_bind (m := checkCount "sorted" 1 1 _) (wpAny_pure (wpAny_bind (tup_gather ht hn (wpAny_bind (wpAny_newList ?_ hn)))))
  show wpAny _ _ _ _ _ ({ s with heap := copyHeap s.heap us } : Shared)
  rw [gath_size]
  refine wpAny_bind (wpAny_holding (wpAny_call_entry_kw slot_list_sort ⟨_, at1, rfl⟩ entry_list_sort ?_ (ksk_l1 _ _)))
  show wpAny (model prog w) A.in1.in1 (Builtin.«list.sort» ⟨[.ref (s.heap.objs.size + 1)], [(Str.ofString "key", .ref f)]⟩) _ _ _
  rw [ksk_t1]
  refine keyH_tree (s := { s with heap := copyHeap s.heap us }) at1 hnb hn hal hk (fun d hd => ?_) (keyH_turns (s := { s with heap := copyHeap s.heap us }) e fun v x hR hx g tk kp => turn v x hR hx g tk (grow kp)) fun g tk out c kp hD ko => ?_
  · obtain ⟨x, hx, rfl⟩ := List.mem_map.mp hd
    exact hu x hx
  · exact ⟨_, rfl, wpAny_pure ⟨_, rfl, fin out c g tk (grow kp) hD (keyedOut_each k ko e)⟩⟩
end
section
open PySem.W PyProof.Rows HT LamX
/-- a key: the first two of a tuple -/
def key2 : PyData → PyData
  | .tuple xs => .tuple (xs.take 2)
  | d => d
def sort2 (xs : List V) (bs : List PyData) : List (V × PyData) := (xs.zip bs).mergeSort (dataLe false fun z => key2 z.2)
def Two (d : PyData) : Prop := ∃ y z r, d = .tuple (.str y :: .str z :: r)
/-- all but the table at P stays -/
def ExtP (P : Addr) (H H' : Hp) : Prop := ∀ b o, b ≠ P → H b = some o → H' b = some o
/-- the table has what it had, and new code -/
def TabG (P : Addr) (H H' : Hp) : Prop := ∃ ps ps' : Array Value, H P = some (.tbl ps) ∧ H' P = some (.tbl ps') ∧ ∀ pos cv, codeAmong pos ps'.toList = some cv → codeAmong pos ps.toList = some cv ∨ ∃ c', cv = .ref c' ∧ H c' = none
theorem tabG_new {P : Addr} {H H' : Hp} {p : Addr} {o : HO} (g : TabG P H H') (h : H' p = none) : TabG P H (upd H' p o) := by
  obtain ⟨ps, ps', a, b, c⟩ := g
  exact ⟨ps, ps', a, by rw [upd_ne (fun z => by rw [z, h] at b; cases b)]; exact b, c⟩
theorem same_ext {P : Addr} {G H H' : Hp} (s : Same G H) (n : G P = none) (e : ExtP P H H') : Same G H' := fun b o h => e b o (fun z => by rw [z, n] at h; cases h) (s b o h)
/-- the lambda is made; all but its maker's table stays -/
theorem lam_makeP {X : Cx} {pins : List (Addr × Obj)} {σ : L2.St} {H : Hp} {s : Shared} {c P : Addr} {params : Arguments} {body : Expr} {scope : Scope} {pos : Pos} {E : Value → Shared → Prop} {Q : Value → Shared → Prop} (I : Inv X pins σ H s) (TB : TabB X.base X.mg c P) (hcode : X.env.code = .ref c)
    (hT : TabS H P (X.env.qual ++ "<lambda>")) (hdef : defaultsOf params X.env = ([], [])) (hfree : ∀ y ∈ scope.names, y.2 = .free → ∃ c, X.env.cells.lookup y.1 = some c)
    (h : ∀ (f c' : Addr) (pm ctv : Value) (H1 : Hp) (s' : Shared), Inv X pins σ H1 s' → ExtP P H H1 → TabG P H H1 → TabS H1 P (X.env.qual ++ "<lambda>") → s'.heap.get? f = some (kla_obj "<lambda>" (X.env.qual ++ "<lambda>") params body scope (cloFrom X.env.cells scope.names []) pm c' ctv) → H1 c' = some (CodeO c' (X.env.qual ++ "<lambda>")) → Q (.ref f) s') :
    wpAny (model X.prog X.w) X.A (eval (.Lambda params body scope pos) X.env) Q E s := by
  obtain ⟨ps, hP, hps, hco⟩ := hT
  have atP : s.heap.get? P = some { cls := .none, data := .fields ps } := I.hok P _ hP
  have bmP := TB.bm.keeps I.bk
  have cdP := TB.code.keeps I.bk
  refine kla_eval hdef ?_
  cases hc : codeAmong pos ps.toList with
  | some cv =>
    obtain ⟨c', rfl, hcc⟩ := hco pos cv hc
    refine kla_makeFunctionHit (mg := X.mg) (c := c) (P := P) (ps := ps) (closure_ok hfree) I.ok.glob (I.mod.glob.keeps I.bk) hcode cdP atP hps hc bmP fun ctv g tk hx _ => ?_
    exact h g.objs.size c' ((X.mg "__name__").getD .none) ctv H _ (I.kept (t' := tk) fun b o e => Heap.get?_push_of_some _ (hx b o e)) (fun _ _ _ e => e) ⟨ps, ps, hP, hP, fun _ _ e => .inl e⟩ ⟨ps, hP, hps, hco⟩ (Heap.get?_push_size _ rfl) hcc
  | none =>
    refine kla_makeFunction (mg := X.mg) (c := c) (P := P) (ps := ps) (closure_ok hfree) I.ok.glob (I.mod.glob.keeps I.bk) hcode cdP atP hps hc TB.gP bmP fun c' ctv g tk hx hge hlt hrec htb => ?_
    obtain ⟨c2, oc, us, t, e2, hoc, hd, hv⟩ := hrec
    cases e2
    have fresh : H c' = none := I.hok.fresh hge
    have cP : P ≠ c' := fun z => by rw [← z, hP] at fresh; cases fresh
    have J := inv_table (t' := tk) (more := #[rawInt pos.line, rawInt pos.col, .ref c']) (h' := g.push (kla_obj "<lambda>" (X.env.qual ++ "<lambda>") params body scope (cloFrom X.env.cells scope.names []) ((X.mg "__name__").getD .none) c' ctv)) I hP
      (fun b o hb e => Heap.get?_push_of_some _ (hx b o hb e)) (Heap.get?_push_of_some _ htb) hge ⟨oc, us, t, Heap.get?_push_of_some _ hoc, hd, hv⟩
    have ext : ExtP P H (upd (upd H P (.tbl (ps ++ #[rawInt pos.line, rawInt pos.col, .ref c']))) c' (CodeO c' (X.env.qual ++ "<lambda>"))) := fun b o hb e => by
      rw [upd_ne (ne_of_none e fresh), upd_ne hb]; exact e
    have eL : (ps ++ #[rawInt pos.line, rawInt pos.col, .ref c']).toList = ps.toList ++ [rawInt pos.line, rawInt pos.col, .ref c'] := by simp
    have grown : TabG P H (upd (upd H P (.tbl (ps ++ #[rawInt pos.line, rawInt pos.col, .ref c']))) c' (CodeO c' (X.env.qual ++ "<lambda>"))) := ⟨ps, _, hP, by rw [upd_ne cP, upd_same], fun p' cv hcv => by
      rw [eL] at hcv
      rcases among_app _ hps hcv with z | z
      · exact .inl z
      · exact .inr ⟨c', z, fresh⟩⟩
    refine h g.objs.size c' ((X.mg "__name__").getD .none) ctv _ _ J ext grown ⟨_, by rw [upd_ne cP, upd_same], by rw [eL]; exact TriplesOk_snoc _ _ _ _ hps, fun p' cv hcv => ?_⟩ (Heap.get?_push_size _ rfl) upd_same
    rw [eL] at hcv
    rcases among_app _ hps hcv with z | z
    · obtain ⟨c0, e1, e2⟩ := hco p' cv z
      exact ⟨c0, e1, ext _ _ (fun y => by rw [y, hP] at e2; cases e2) e2⟩
    · exact ⟨c', z, upd_same⟩
def tSortL (K : PySem.W.Frag) (P : Addr) (q : Str) (ta : TA) : TE := fun σ H Q => ta σ H fun vs H1 => ∃ a xs bs G, vs = [.ref a] ∧ SqT K G a xs ∧ DpAll K G xs bs ∧ Same G H1 ∧ G P = none ∧ (∀ d ∈ bs, Two d) ∧ TabS H1 P q ∧
  ∀ p H2, ExtP P H1 H2 → TabG P H1 H2 → TabS H2 P q → H2 p = none → Q (.ref p) (upd H2 p (.lst ((sort2 xs bs).map Prod.fst)))
/-- what is known of a member while it is sorted -/
def MemR (h : Heap) (v : Value) (z : V × PyData) : Prop := RelV z.1 v ∧ ∃ p its y u t1 t2, v = .ref p ∧ IsTup h p its ∧ its.size ≤ sizeLine ∧ its.toList.take 2 = [.str y t1, .str u t2] ∧ key2 z.2 = .tuple [.str y, .str u]
theorem memR_all {X : Cx} {pins : List (Addr × Obj)} {σ : L2.St} {H G : Hp} {s : Shared} (I : Inv X pins σ H s) (sG : Same G H) : ∀ {xs : List V} {bs : List PyData} {its : List Value}, Vals xs its → DpAll X.K G xs bs → (∀ d ∈ bs, Two d) → EachIs (MemR s.heap) its (xs.zip bs)
  | [], _, _, .nil, hd, _ => by
    cases hd
    exact .nil
  | x :: xs, _, _, .cons r rs, hd, ht => by
    cases hd with
    | cons h1 h2 =>
      rename_i d ds
      refine .cons ⟨r, ?_⟩ (memR_all I sG rs h2 fun e he => ht e (List.mem_cons_of_mem _ he))
      obtain ⟨y, u, r', rfl⟩ := ht d (List.mem_cons_self ..)
      cases h1 with
      | tup hs ha =>
        rename_i p us
        cases r
        obtain ⟨is, ri, hi, hz⟩ := I.tuple (sqt_same sG hs)
        cases ha with
        | cons a1 a2 =>
          cases a2 with
          | cons a3 a4 =>
            cases a1
            cases a3
            cases ri with
            | cons r1 r2 =>
              cases r2 with
              | cons r3 r4 =>
                obtain ⟨t1, rfl⟩ := r1
                obtain ⟨t2, rfl⟩ := r3
                exact ⟨p, _, y, u, t1, t2, rfl, hi, by rw [List.size_toArray]; have := r4.length; simp only [List.length_cons] at hz ⊢; omega, by simp, rfl⟩
theorem relv_out {h : Heap} : ∀ {out : List Value} {l : List (V × PyData)}, EachIs (MemR h) out l → Vals (l.map Prod.fst) out
  | _, _, .nil => .nil
  | _, _, .cons a b => .cons a.1 (relv_out b)
theorem pe_sortL {X : Cx} {c P : Addr} {q x : Str} {params : Arguments} {scope : Scope} {p0 p1 p2 p3 p4 pos lpos kpos : Pos} {j : Nat} {e : Expr} {ta : TA} (hr : Room 3 X.A) (hg : Gl X "sorted") (hm : X.mg "sorted" = none) (ha : PA X [e] ta)
    (TB : TabB X.base X.mg c P) (hcode : X.env.code = .ref c) (hq : X.env.qual ++ "<lambda>" = q) (hdef : defaultsOf params X.env = ([], []))
    (hnm : scope.names = [(x, .local)]) (hk : scope.kind = .function) (hco : scope.isCoroutine = false) (hgen : scope.isGenerator = false) (hdb : (x == ("__debug__" : Str)) = false)
    (hcl : cloFrom X.env.cells scope.names [] = [])
    (hbind : ∀ (q : Str) (pm ctv : Value) (c' : Addr) (u : Value), bindArgs (kla_fn "<lambda>" q params (.Subscript (.Name x p1) (.Slice none (some (.Constant (.int 2) j p2)) none p3) p4) scope [] pm (.ref c') ctv) ⟨[u], []⟩ = pure [(x, u)])
    (he : backTo pos (starEach [e] X.env) = (false, eval e X.env) :: backTo pos (starEach [] X.env) := by rfl) (hpl : (backTo pos (starEach [e] X.env)).any (·.1) = false := by rfl) :
    PE X (.Call (.Name "sorted" p0) [e] [⟨some "key", .Lambda params (.Subscript (.Name x p1) (.Slice none (some (.Constant (.int 2) j p2)) none p3) p4) scope lpos, kpos⟩] pos) (tSortL X.K P q ta) := by
  refine ⟨fun pins s σ H Q I h => ?_⟩
  have hv : bootBuiltins ("sorted" : Str) = some (.builtin "sorted") := by decide +kernel
  refine wpAny_Call_Name_kw (ld_blt I hg hm hv ?_ (by decide) (by decide))
  refine PyProof.Rows.callWith_kw (thn (ha.run pos pins s σ H _ I h) fun us s1 ⟨vs, H1, I1, r1, q1⟩ => ?_) he hpl (by rfl) (by rfl)
  obtain ⟨a, xs, bs, G, rfl, hS, hD, sG, nT, h2, hT, q2⟩ := q1
  obtain rfl := Vals.ref1 r1
  refine wpAny_evalAll_cons (wpAny_bind ?_)
  subst hq
  refine lam_makeP I1 TB hcode hT hdef (fun y hy e => by rw [hnm] at hy; rw [List.mem_singleton.mp hy] at e; cases e) fun f c' pm ctv H2 s2 I2 hE hG2 hT2 hf hco2 => ?_
  rw [hcl] at hf
  refine wpAny_bind (wpAny_standAt (wpAny_pure (wpAny_evalAll_nil ?_)))
  show wpAny _ _ (call (.builtin "sorted") [.ref a] [(Str.ofString "key", .ref f)]) _ _ s2
  have sG2 := same_ext sG nT hE
  obtain ⟨its, rI, hI, hz⟩ := I2.tuple (sqt_same sG2 hS)
  have hM := memR_all I2 sG2 rI hD h2
  have hlen : (xs.zip bs).length ≤ sizeLine := by rw [List.length_zip]; omega
  have hkey : ∀ z ∈ xs.zip bs, ∃ y u, key2 z.2 = .tuple [.str y, .str u] := fun z hz => by
    obtain ⟨y, u, r, e⟩ := h2 z.2 (List.of_mem_zip hz).2
    exact ⟨y, u, by rw [e]; rfl⟩
  obtain ⟨⟨oc, vs2, tq, hoc, hdc, hvc⟩, _, _⟩ := I2.hok c' _ hco2
  refine sorted_key_tup (fun z : V × PyData => key2 z.2) hI hM (fun d hd d' hd' => ?_) (.inl fun d hd => ?_) hlen (fun z hz => ?_) (fun v z hv hz h tk kp => ?_) fun out cc h' tk kp hD' hO => ?_
  · obtain ⟨z, hz, rfl⟩ := List.mem_map.mp hd
    obtain ⟨z', hz', rfl⟩ := List.mem_map.mp hd'
    obtain ⟨y, u, e⟩ := hkey z hz
    obtain ⟨y', u', e'⟩ := hkey z' hz'
    show alike (key2 z.2) (key2 z'.2) = true
    rw [e, e']
    simp [alike, alikeAll]
  · obtain ⟨z, hz, rfl⟩ := List.mem_map.mp hd
    obtain ⟨y, u, e⟩ := hkey z hz
    exact ⟨_, _, e⟩
  · obtain ⟨y, u, e⟩ := hkey z hz
    rw [e]
    show X.A.units + 2 + (PyData.tuple [.str y, .str u]).depth < cLine
    have : (PyData.tuple [.str y, .str u]).depth = 1 := by simp [PyData.depth, PyData.depthAll]
    rw [this]
    have := hr.units
    omega
  · obtain ⟨rv, p, is, y, u, t1, t2, rfl, hp, hsz, htk, hk2⟩ := hv
    have hp2 : IsTup h p is := by
      obtain ⟨o, h1, h2⟩ := hp
      exact ⟨o, kp _ _ h1, h2⟩
    refine lam_run (s := { s2 with heap := h, toks := tk }) (hr.in1.in1).depth (I2.nolimit.keeps kp) (kp _ _ hf) ⟨c', oc, vs2, tq, rfl, kp _ _ hoc, hdc, hvc⟩ (hbind _ _ _ _) hnm hk hco hgen hdb hp2 hsz fun h3 tk3 kp3 r hr3 => ?_
    refine ⟨h3, tk3, rfl, kp3, ?_⟩
    have two : ∀ {r : Addr} {g : Heap} {arr : Array Value}, IsTup g r arr → arr.toList = [.str y t1, .str u t2] → Reads g (.ref r) (key2 z.2) [] := fun {r g arr} ⟨o, h1, h2, n, h3⟩ e => by
      rw [hk2]
      refine .tuple h1 h2 h3 ?_
      rw [e]
      exact .cons (.str _ _) (.cons (.str _ _) .nil)
    rcases hr3 with ⟨rfl, hs2⟩ | ht3
    · have hp3 : IsTup h3 r is := by
        obtain ⟨o, h1, h2⟩ := hp2
        exact ⟨o, kp3 _ _ h1, h2⟩
      refine two hp3 ?_
      rw [← htk, List.take_of_length_le (by rw [Array.length_toList]; exact hs2)]
    · exact two ht3 (by rw [List.toList_toArray, htk])
  · have hlt : s2.heap.objs.size ≤ s2.heap.objs.size + 1 := Nat.le_succ _
    have I3 := I2.laid (a := s2.heap.objs.size + 1) (o := .lst ((sort2 xs bs).map Prod.fst)) (t' := tk) kp hlt ⟨by unfold sort2; rw [List.length_map, List.length_mergeSort]; exact hlen, out, cc, relv_out hO, hD'⟩
    exact ⟨.ref _, _, I3, rfl, q2 _ _ hE hG2 hT2 (I2.hok.fresh hlt)⟩
end
section
open PySem.W PyProof.Rows HT LamX
variable {P : Program} {w : World} {K : PySem.W.Frag} {mg : Str → Option Value} {base : Heap}
/-- a def's rule where its code object is named -/
theorem okC {x qual : Str} {st : Stmt} {f c : Addr} {fd : FuncData} {N ps : List Str} {k : Nat} {sp : Sp} (F : Fun K x qual st f fd) (S : FnScope N ps (defScope st)) (hc : fd.code = .ref c) (len : ∀ vs H Q E, sp vs H Q E → vs.length = ps.length)
    (body : ∀ (A : Around) (outer : List Env) (s : Shared) (H : Hp) (vs : List V) (Q : VK) (E : XK), Room k (A.deeper (envOfC qual (defScope st) s.heap.objs.size f (.ref c))) → sp vs H Q E →
      ∃ t, PSs (cxOf CX0 P w K mg base N qual (defScope st) f (.ref c) A outer s H E).nox (defBody st) t ∧ t { nx := fun _ H' => Q .non H', rt := Q } (L2.start N vs) H) : FnOk P w K mg base CX0 (k + 1) f fd ps sp := by
  obtain ⟨oc, od, kV, doc, pm, an, cdv, ct, osl, rfl, lk, hcd⟩ := F.ex
  obtain rfl : cdv = .ref c := hc
  refine fn_of lk hcd S len fun A outer s H vs Q E hr h => ?_
  obtain ⟨t, h1, h2⟩ := body A outer s H vs Q E hr h
  exact ⟨t, h1.nox, h2⟩
/-- tuple(sorted(t, key=lambda m: m[:2])) -/
def sp_sbk (K : PySem.W.Frag) (P : Addr) (q : Str) : Sp := fun vs H Q _ => ∃ a xs bs G, vs = [.ref a] ∧ SqT K G a xs ∧ DpAll K G xs bs ∧ Same G H ∧ G P = none ∧ (∀ d ∈ bs, Two d) ∧ TabS H P q ∧
  ∀ p H2, ExtP P H H2 → TabG P H H2 → TabS H2 P q → H p = none → H2 p = some (.tup ((sort2 xs bs).map Prod.fst)) → Q (.ref p) H2
/-- the same tables, one thing more -/
theorem tabS_new {H : Hp} {P p : Addr} {q : Str} {o : HO} (t : TabS H P q) (h : H p = none) : TabS (upd H p o) P q := t.ext fun b u e => by rw [upd_ne (fun z => by rw [z, h] at e; cases e)]; exact e
theorem extP_new {P : Addr} {H H' : Hp} {p : Addr} {o : HO} (e : ExtP P H H') (h : H' p = none) : ExtP P H (upd H' p o) := fun b u n hb => by
  have := e b u n hb
  rw [upd_ne (fun z => by rw [z, h] at this; cases this)]; exact this
theorem extP_none {P : Addr} {H H' : Hp} {p : Addr} {q : Str} (e : ExtP P H H') (t' : TabS H' P q) (h : H' p = none) : H p = none := by
  cases hp : H p with
  | none => rfl
  | some o =>
    by_cases z : p = P
    · obtain ⟨ps, h1, _⟩ := t'
      rw [z, h1] at h; cases h
    · rw [e p o z hp] at h; cases h
end
section
open LamX
/-- the def of the name nm, its code object and the empty table of it -/
def TabOf (nm : Str) (mg : Str → Option Value) (h : Heap) : Prop := ∃ a o fd c P, mg nm = some (.ref a) ∧ h.get? a = some o ∧ o.data = .func fd ∧ fd.code = .ref c ∧ h.IsCode c P #[] ∧ h.TableAt c P #[]
theorem walk_ofTab {l : PySem.W.OpenLaw} {n k : Nat} {q : Program} {loose : List Str} {XP : (Str → Option Value) → Heap → Prop} {YP : World → Heap → Prop} {d : DefRec} {K : Params → PySem.W.Frag} {CX : World → CXT} {x : Str} (nm : Str)
    (hn : l.most = some n) (hn2 : n ≤ sizeLine) (hdf : d.params.defaults = []) (hr : Room k callerA) (hrec : ((recsOf q).any fun e => e.name == nm) = true) (hY : ∀ w h, YP w h → (K w.params).In h)
    (F : ∀ w mg fa h, YP w h → (K w.params).In h → h.Ns mainGlobals mg → mg d.name = some (.ref fa) → TabOf nm mg h → LawAtS l w (K w.params) (CX w) k n x mg fa h)
    (hCX : ∀ w H s e s', CX w [] H s (fun _ _ _ => False) e s' → False) : PySem.W.WalkO q loose XP YP l.row.toRowW d [] (fun f vs => PySem.call f vs) := by
  refine Att.attach_callB hn hdf ?_
  intro w s0 s1 mg mb fa o pm cd doc a vs ns G Y _ _ _ hmg hobj hints hlen hbits hg
  obtain ⟨dd, hm, e⟩ := List.any_eq_true.mp hrec
  have tab : TabOf nm mg s1.heap := by
    have := G.T.tab dd hm
    rwa [beq_iff_eq.mp e] at this
  obtain ⟨fd, cs, sp, h1, h2, h3, h4, h5, h6⟩ := F w mg fa s1.heap Y (hY w _ Y) G.T.g hmg tab
  exact law_callTs (hY w _ Y) G.T.g G.T.b G.T.builtins G.T.nolimit hg h1 h2 h3 G.T.bmain hobj hints (Nat.le_trans hlen hn2)
    hr h6 h4 (fun H hH hS => h5 H a ns hlen hbits hH hS) (hCX w · s1)
end
section
open PySem.W PyProof.Rows HT LamX
def sortD (bs : List PyData) : List PyData := bs.mergeSort (dataLe false key2)
theorem sort2_snd {xs : List V} {bs : List PyData} (h : xs.length = bs.length) : (sort2 xs bs).map Prod.snd = sortD bs := by
  have e : (xs.zip bs).map Prod.snd = bs := List.map_snd_zip (Nat.le_of_eq h.symm)
  unfold sort2 sortD
  exact (List.map_mergeSort (r := dataLe false fun z : V × PyData => key2 z.2) (s := dataLe false key2) (f := Prod.snd) (fun a _ b _ => rfl)).trans (by rw [e])
theorem sort2_all {K : PySem.W.Frag} {B : Hp} {xs : List V} {bs : List PyData} (h : DqAll K B xs bs) : DqAll K B ((sort2 xs bs).map Prod.fst) (sortD bs) := by
  rw [← sort2_snd (dqa_len h)]
  have hz : ∀ z ∈ xs.zip bs, Dq K B z.1 z.2 := fun z hz => by
    obtain ⟨i, hi⟩ := List.mem_iff_getElem?.mp hz
    rw [List.getElem?_zip_eq_some] at hi
    obtain ⟨d, h1, h2⟩ := dqa_atV h hi.1
    rw [hi.2] at h1
    cases h1
    exact h2
  have all : ∀ l : List (V × PyData), (∀ z ∈ l, Dq K B z.1 z.2) → DqAll K B (l.map Prod.fst) (l.map Prod.snd) := fun l => by
    induction l with
    | nil => intro _; exact .nil
    | cons z l ih => intro hl; exact .cons (hl z (List.mem_cons_self ..)) (ih fun y hy => hl y (List.mem_cons_of_mem _ hy))
  exact all _ fun z hm => hz z (List.mem_mergeSort.mp hm)
theorem tabF_S {F : AP} {H : Hp} {P : Addr} {q : Str} (h : TabF F H P q) : TabS H P q := by
  obtain ⟨ps, a, b, c⟩ := h
  refine ⟨ps, a, b, fun pos cv hc => ?_⟩
  obtain ⟨c', e1, e2, _⟩ := c pos cv hc
  exact ⟨c', e1, e2⟩
theorem we_sbk {K : PySem.W.Frag} {C P : Addr} {q : Str} {E E' : XK} {XP : Addr → SM → Prop} {ρ : List Sl} {m : SM} {k : Rk → SM → Prop} {tr : TA} (h : WA (stoR K C P q) K E XP ρ m tr fun rs m1 => ∃ ds, DLo rs = some ds ∧ ∃ bs, ds = [.tuple bs] ∧ (∀ d ∈ bs, Two d) ∧ k (.d (.tuple (sortD bs))) m1) :
    WE (stoR K C P q) K E XP ρ m (tCall (sp_sbk K P q) [] E' tr) k := by
  unfold WE
  intro F0 H0 B0 F H B σ D Q qq
  refine wa_data h D _ fun vs ds m1 F1 H1 B1 ⟨bs, e, h2, k1⟩ D1 q1 hd => ?_
  subst e
  obtain ⟨a, xs, rfl, ha, hx⟩ : ∃ a xs, vs = [.ref a] ∧ B1 a = some (.tup xs) ∧ DqAll K B1 xs bs := by
    cases hd with
    | cons g1 g2 => cases g2; obtain ⟨p, us, rfl, h3, h4⟩ := dq_tupH g1; exact ⟨p, us, rfl, h3, h4⟩
  obtain ⟨r1, r2, r3, r4, f1, f2, f3, f4, hdm⟩ := D1.r
  have bP : B1 P = none := (hdm _ f4).2
  refine ⟨a, xs, bs, B1, rfl, sqt ha, DqAll.dp _ hx, D1.st.s, bP, h2, tabF_S r4, fun p H2 hE hG hT hp hH => ?_⟩
  have bp : B1 p = none := b_none D1.st.s hp
  have keep : ∀ x o, x ≠ P → H1 x = some o → H2 x = some o := fun x o n e => hE x o n e
  have s2 : Same (upd B1 p (.tup ((sort2 xs bs).map Prod.fst))) H2 := fun x o e => by
    by_cases z : x = p
    · rw [z, upd_same] at e; rw [z, hH, ← e]
    · rw [upd_ne z] at e; exact keep x o (fun y => by rw [y, bP] at e; cases e) (D1.st.s x o e)
  have live : ∀ x, H1 x ≠ none → H2 x ≠ none := fun x hx => by
    by_cases z : x = P
    · obtain ⟨ps, e, _⟩ := hT; rw [z, e]; simp
    · cases e : H1 x with
      | none => exact absurd e hx
      | some o => rw [keep x o z e]; simp
  -- what may change from now on: the new code too
  let F2 : AP := fun x => F1 x ∨ (H1 x = none ∧ H2 x = some (CodeO x q))
  have qs : Stq F1 H1 B1 F2 H2 (upd B1 p (.tup ((sort2 xs bs).map Prod.fst))) :=
    ⟨same_upd bp, s2, fun x h1 h2 => by rw [upd_ne (fun z => h1 (by rw [z]; exact hp))]; exact h2, fun x o e n => keep x o (fun z => n (by rw [z]; exact f4)) e, fun x h1 n z => z.elim n fun y => h1 y.1, live⟩
  have rel : (stoR K C P q).rel m1 F2 H2 (upd B1 p (.tup ((sort2 xs bs).map Prod.fst))) := by
    obtain ⟨dx, r1⟩ := r1
    obtain ⟨kvs, t1, t2⟩ := r2
    obtain ⟨us, c1, c2⟩ := r3
    obtain ⟨ps1, hP1, _, hc1⟩ := r4
    obtain ⟨ps, hP2, htr, hc2⟩ := hT
    obtain ⟨ps3, ps4, g1, g2, g3⟩ := hG
    rw [hP1] at g1
    cases g1
    rw [hP2] at g2
    cases g2
    have nP : ∀ {x : Addr} {o : HO}, H1 x = some o → (∀ ps, o ≠ .tbl ps) → x ≠ P := fun e n z => by rw [z, hP1] at e; exact n _ (Option.some.inj e).symm
    refine ⟨⟨dx, keep _ _ (nP r1 fun _ z => nomatch z) r1⟩, ⟨kvs, keep _ _ (nP t1 fun _ z => nomatch z) t1, t2.same (same_upd bp)⟩, ⟨us, keep _ _ (nP c1 fun _ z => nomatch z) c1, dqa_same (same_upd bp) _ c2⟩, ⟨ps, hP2, htr, fun pos cv hc => ?_⟩, .inl f1, .inl f2, .inl f3, .inl f4, fun x hx => ?_⟩
    · obtain ⟨c', e1, e2⟩ := hc2 pos cv hc
      refine ⟨c', e1, e2, ?_⟩
      rcases g3 pos cv hc with z | ⟨c0, z, z2⟩
      · obtain ⟨c1, u1, _, u3⟩ := hc1 pos cv z
        rw [e1] at u1
        cases u1
        exact .inl u3
      · rw [e1] at z
        cases z
        exact .inr ⟨z2, e2⟩
    · rcases hx with hx | ⟨hx, hx2⟩
      · refine ⟨live x (hdm x hx).1, ?_⟩
        rw [upd_ne (fun z => (hdm x hx).1 (by rw [z]; exact hp))]
        exact (hdm x hx).2
      · refine ⟨by rw [hx2]; simp, ?_⟩
        by_cases z : x = p
        · rw [z, hH] at hx2
          have := Option.some.inj hx2
          unfold CodeO at this
          cases this
        · rw [upd_ne z]; exact b_none D1.st.s hx
  exact qq _ _ m1 F2 H2 _ k1 (D1.step qs rel) (q1.trans qs) (.tup upd_same (dqa_same (same_upd bp) _ (sort2_all hx)))
end
/-! ## methods that may raise, and what apply needs -/
theorem okMX {M : Type} {R : MR M} {P : Program} {w : World} {K : PySem.W.Frag} {mg : Str → Option Value} {base : Heap} {x qual : Str} {st : Stmt} {f : Addr} {fd : FuncData} {N ps : List Str} {k : Nat} {at_ : M → Addr} {pre : M → List PyData → Prop} {post : M → List PyData → Rk → M → Prop} {bad : M → List PyData → Addr → Prop}
    (F : Fun K x qual st f fd) (S : FnScope N ps (defScope st)) (n : Nat) (hn : N.length = ps.length + n) (len : ∀ m ds, pre m ds → ds.length + 1 = ps.length)
    (hb : ∀ (cdv : Value) (A : Around) (outer : List Env) (s : Shared) (H : Hp) (E : XK), Room k (A.deeper (envOfC qual (defScope st) s.heap.objs.size f cdv)) →
      ∃ t, PSs (cxOf (L2.CX P w) P w K mg base N qual (defScope st) f cdv A outer s H E) (defBody st) t ∧
        ∀ m ds, pre m ds → WS R K E (fun C m' => bad m ds C ∧ m' = m) (.v (.ref (at_ m)) :: (ds.map Sl.d ++ List.replicate n Sl.u)) m t (fun _ m' => post m ds (.d .none) m') (fun r m' => post m ds r m') (fun _ _ => False) (fun _ _ => False)) : FnOk P w K mg base (L2.CX P w) (k + 1) f fd ps (spM R K at_ pre post bad) :=
  F.okX S (fun vs H Q E ⟨m, us, ds, F, B, e, hd, _, _, hp, _⟩ => by rw [e, List.length_cons, dqa_len hd, len m ds hp]) fun cdv A outer s H vs Q E hr h => by
    obtain ⟨t, h1, h2⟩ := hb cdv A outer s H E hr
    refine ⟨t, h1, run_M h n ?_ fun m ds hp => h2 m ds hp⟩
    obtain ⟨m, us, ds, F, B, rfl, hd, _, _, hp, _⟩ := h
    have := len m ds hp
    rw [List.length_cons, dqa_len hd, this, hn]
    omega
theorem mtK_index {K : PySem.W.Frag} {X : Cx} (h : X.K = K) : MtR X "list.index" (rIndex K) := by subst h; exact mt_index
section
variable {M : Type} {R : MR M} {K : PySem.W.Frag} {E : XK} {XP : Addr → M → Prop} {ρ : List Sl} {m : M} {k : Rk → M → Prop} {te : TE} {tr : TA} {nx bk ct : List Sl → M → Prop} {rt : Rk → M → Prop} {i : Nat}
/-- xs.extend(ys) of a slot's own list -/
theorem ws_extend {xs : List PyData} (hi : ρ[i]? = some (.o xs)) (h : WA R K E XP ρ m tr fun rs m1 => ∃ ys, DLo rs = some [.list ys] ∧ xs.length + ys.length ≤ 90000 ∧ nx (ρ.set i (.o (xs ++ ys))) m1) : WS R K E XP ρ m (tDrop (tBM K "list" rExtend (tVar i) tr)) nx rt bk ct := by with_unfolding_all exact (fun D d n _ _ _ => by
  obtain ⟨w, h1, p, us, rfl, h2, h3, h4, h5, h6⟩ := d.s i _ hi
  refine ⟨.ref p, h1, .inl ⟨rfl, _, sql h2⟩, ?_⟩
  refine wa_data (k' := fun ds m1 => ∃ ys, ds = [.list ys] ∧ xs.length + ys.length ≤ 90000 ∧ nx (ρ.set i (.o (xs ++ ys))) m1) (fun D Q q => h D Q fun vs rs m' F' H' B' ⟨x, e, k⟩ => q vs rs m' F' H' B' ⟨_, e, x, rfl, k⟩) d _ fun vs ds m1 F1 H1 B1 ⟨ys, e, hl, k1⟩ D1 q1 hd => ?_
  subst e
  cases hd with
  | cons g1 g2 =>
    cases g2
    have e1 := q1.k _ _ h2 h4
    have hu := dqa_len h6
    obtain ⟨p2, ws, rfl, g3, g4⟩ := dq_lst g1
    have hw := dqa_len g4
    exact ⟨p, p2, us, ws, rfl, rfl, e1, D1.st.s _ _ g3, sz (by omega), n k1 (D1.putO hi h1 (dqa_app (dqa_same q1.b _ h6) g4)) q1.b⟩)
/-- xs.index(b) of a list of truths -/
theorem we_idxF (h : WE R K E XP ρ m te fun a m1 => ∃ bs : List Bool, LR a (bs.map .bool) ∧ WA R K E XP ρ m1 tr fun rs m2 => ∃ b j, rs = [.d (.bool b)] ∧ bs[j]? = some b ∧ (∀ i, i < j → bs[i]? ≠ some b) ∧ k (.d (.int (j : Nat))) m2) : WE R K E XP ρ m (tBM K "list" (rIndex K) te tr) k := by
  unfold WE at h ⊢
  intro F0 H0 B0 F H B σ D Q qq
  refine h D _ fun v a m1 F1 H1 B1 ⟨bs, la, k1⟩ D1 q1 r1 => ?_
  obtain ⟨p, vs, rfl, h2, h3⟩ := rel_lst D1.st.s r1 la
  refine ⟨.inl ⟨rfl, _, sql h2⟩, ?_⟩
  unfold WA at k1
  refine k1 D1 _ fun ws rs m2 F2 H2 B2 ⟨b, j, e, hj, hno, k2⟩ D2 q2 r2 => ?_
  subst e
  obtain ⟨w, rfl, r3⟩ := relA1 r2
  cases dq_bl r3
  obtain ⟨p', vs', e', h4, h5⟩ := rel_lst D2.st.s (r1.step q2) la
  cases e'
  have e2 := dqa_bools h5
  subst e2
  refine ⟨p, _, .bl b, j, .bl b, rfl, rfl, sql h4, rfl, ?_, ?_, ?_, ?_, ?_⟩
  · rw [List.all_eq_true]
    intro x hx
    obtain ⟨y, _, rfl⟩ := List.mem_map.mp hx
    rfl
  · rw [List.getElem?_map, hj]; rfl
  · show (b == b) = true
    cases b <;> rfl
  · intro i z hi hz
    rw [List.getElem?_map] at hz
    cases hb : bs[i]? with
    | none => rw [hb] at hz; cases hz
    | some c =>
      rw [hb] at hz
      cases hz
      have := hno i hi
      rw [hb] at this
      show (c == b) = false
      cases b <;> cases c <;> first | rfl | exact absurd rfl this
  · exact qq _ _ m2 _ _ _ k2 D2 (q1.trans q2) (.int _)
end
section
variable {K : PySem.W.Frag} {C P : Addr} {q : Str} {E : XK} {XP : Addr → SM → Prop} {ρ : List Sl} {m : SM} {k : Rk → SM → Prop} {td ty : TE}
/-- key in the table -/
theorem we_din (h : WE (stoR K C P q) K E XP ρ m ty fun b m1 => ∃ x y, b = .d (.tuple [.str x, .str y]) ∧ WE (stoR K C P q) K E XP ρ m1 td fun a m2 => a = .v (.ref m2.t) ∧ k (.d (.bool (lkD m2.tab [.inr x, .inr y]).isSome)) m2) :
    WE (stoR K C P q) K E XP ρ m (tDIn ty td) k := by
  unfold WE at h ⊢
  intro F0 H0 B0 F H B σ D Q qq
  refine h D _ fun v a m1 F1 H1 B1 ⟨x, y, ea, k1⟩ D1 q1 r1 => ?_
  subst ea
  refine k1 D1 _ fun w b m2 F2 H2 B2 ⟨eb, k2⟩ D2 q2 r2 => ?_
  subst eb
  cases (show w = .ref m2.t from r2)
  obtain ⟨p, rfl, hp⟩ := key_at D2.st.s (r1.step q2)
  obtain ⟨kvs2, h3, h4⟩ := D2.r.2.1
  refine ⟨m2.t, _, rfl, DGet.t h3 hp, ?_⟩
  refine qq _ _ m2 F2 H2 B2 k2 D2 (q1.trans q2) ?_
  rcases h4.get [.inr x, .inr y] with ⟨e1, e2⟩ | ⟨u, d, e1, e2, e3⟩
  · rw [e1, e2]; exact .bl _
  · rw [e1, e2]; exact .bl _
end
/-! ## a law's body behind its draws and a new store -/
def sm0 (s t c : Addr) : SM := ⟨s, t, c, 0, 0, [], []⟩
def sp_snew (C : Addr) : Sp := fun vs H Q _ => ∃ p dx, vs = [.ref p] ∧ H p = some (.ins C dx []) ∧ ∀ t c H', H t = none → H c = none → t ≠ c → H' p = some (.ins C dx (fSto (sm0 p t c))) → H' t = some (.dT []) → H' c = some (.lst []) → (∀ x o, H x = some o → x ≠ p → H' x = some o) → Q .non H'
theorem dqa_nums {K : PySem.W.Frag} (G : Hp) (ds : List Int) : DqAll K G (ds.map V.int) (ds.map .int) := by
  induction ds with
  | nil => exact .nil
  | cons x xs ih => exact .cons (.int x) ih
theorem enter_sto {K : PySem.W.Frag} {E : XK} {Q : VK} {ts : TS} {H : Hp} {C P a p s t c dx : Addr} {q : Str} {ds : List Int} (n : Nat) (hp : H p = some (.lst (ds.map V.int))) (qq : ∀ H', Q (.bl true) H')
    (hs : H s = some (.ins C dx (fSto (sm0 s t c)))) (ht : H t = some (.dT [])) (hc : H c = some (.lst [])) (np : p ≠ c) (hT : LamX.TabS H P q)
    (body : WS (stoR K C P q) K E (fun _ _ => False) (.u :: .d (.list (ds.map .int)) :: .v (.ref s) :: List.replicate n Sl.u) (sm0 s t c) ts (fun _ _ => False) (fun r _ => r = .d (.bool true)) (fun _ _ => False) (fun _ _ => False)) :
    ts { nx := fun _ H' => Q .non H', rt := Q } (some (.ref a) :: some (.ref p) :: some (.ref s) :: List.replicate n none) H := by
  let B : Hp := upd (fun _ => none) p (.lst (ds.map V.int))
  let F : AP := fun x => x = s ∨ x = t ∨ x = c ∨ x = P ∨ H x = some (LamX.CodeO x q)
  obtain ⟨tb, h1, h2, h3⟩ := hT
  have hB : Same B H := fun x o h => by
    by_cases hx : x = p
    · rw [hx] at h ⊢
      rw [show B p = some (.lst (ds.map V.int)) from upd_same] at h
      rw [← h]; exact hp
    · rw [show B x = none from upd_ne hx] at h; cases h
  have hdom : ∀ x, F x → H x ≠ none ∧ B x = none := fun x hx => by
    have hn : x ≠ p ∧ H x ≠ none := by
      rcases hx with e | e | e | e | e
      · subst e; exact ⟨fun z => (by rw [z, hp] at hs; cases hs), by rw [hs]; simp⟩
      · subst e; exact ⟨fun z => (by rw [z, hp] at ht; cases ht), by rw [ht]; simp⟩
      · subst e; exact ⟨fun z => np z.symm, by rw [hc]; simp⟩
      · subst e; exact ⟨fun z => (by rw [z, hp] at h1; cases h1), by rw [h1]; simp⟩
      · exact ⟨fun z => (by rw [z, hp] at e; cases e), by rw [e]; simp⟩
    exact ⟨hn.2, upd_ne hn.1⟩
  have hR : (stoR K C P q).rel (sm0 s t c) F H B := ⟨⟨dx, hs⟩, ⟨[], ht, .nil⟩, ⟨[], hc, .nil⟩, ⟨tb, h1, h2, fun pos cv e => by
    obtain ⟨x, e1, e2⟩ := h3 pos cv e
    exact ⟨x, e1, e2, .inr (.inr (.inr (.inr e2)))⟩⟩, .inl rfl, .inr (.inl rfl), .inr (.inr (.inl rfl)), .inr (.inr (.inr (.inl rfl))), hdom⟩
  have D0 : DS (stoR K C P q) K E (fun _ _ => False) F H B F H B (some (.ref a) :: some (.ref p) :: some (.ref s) :: List.replicate n none) (.u :: .d (.list (ds.map .int)) :: .v (.ref s) :: List.replicate n Sl.u) (sm0 s t c) := by
    refine ⟨by simp, .refl hB, hR, fun i t ht => ?_, fun i j p xs ys h1 => ?_, fun _ _ _ _ _ z => z.elim⟩
    · match i with
      | 0 => cases ht; exact ⟨_, rfl, True.intro⟩
      | 1 => cases ht; exact ⟨_, rfl, _, rfl, .lst upd_same (dqa_nums _ _)⟩
      | 2 => cases ht; exact ⟨_, rfl, rfl⟩
      | i + 3 =>
        simp only [List.getElem?_cons_succ, List.getElem?_replicate] at ht ⊢
        split at ht
        · next h => cases ht; exact ⟨none, by rw [if_pos h], True.intro⟩
        · cases ht
    · match i with
      | 0 => cases h1
      | 1 => cases h1
      | 2 => cases h1
      | i + 3 =>
        simp only [List.getElem?_cons_succ, List.getElem?_replicate] at h1
        split at h1 <;> cases h1
  unfold WS at body
  exact body _ D0 (fun z => z.elim) (fun {v r m' F' H' B'} hk st hF rel => by rw [hk] at rel; rw [dq_bl rel]; exact qq _) (fun z => z.elim) (fun z => z.elim)
/-! ## a list is shown to a def that answers with a scalar -/
def DLl : List Rk → Option (List PyData)
  | [] => some []
  | .d x :: rs => (DLl rs).map (x :: ·)
  | .o xs :: rs => (DLl rs).map (.list xs :: ·)
  | .l xs :: rs => (DLl rs).map (.list xs :: ·)
  | _ :: _ => none
theorem toDl {K : PySem.W.Frag} {Hs : Hp} {F : AP} {H B : Hp} : ∀ {vs : List V} {rs : List Rk} {ds : List PyData} {Bx : Hp}, Same B Bx → Same Bx H → RelA K Hs F H B vs rs → DLl rs = some ds → ∃ By, Same Bx By ∧ Same By H ∧ DqAll K By vs ds
  | [], [], _, Bx, _, s, _, e => by cases e; exact ⟨Bx, Same.refl _, s, .nil⟩
  | v :: vs, r :: rs, ds, Bx, sb, s, h, e => by
    have lst : ∀ {xs es : List PyData} {p : Addr} {us : List V}, v = .ref p → H p = some (.lst us) → DqAll K B us xs → DLl rs = some es → ds = .list xs :: es → ∃ By, Same Bx By ∧ Same By H ∧ DqAll K By (v :: vs) ds := fun {xs es p us} e1 e2 e3 e4 e5 => by
      subst e1 e5
      have s1 : Same Bx (upd Bx p (.lst us)) := fun x o hx => by
        by_cases z : x = p
        · rw [z] at hx ⊢; rw [upd_same]; rw [← e2]; exact s _ _ hx
        · rw [upd_ne z]; exact hx
      have s2 : Same (upd Bx p (.lst us)) H := fun x o hx => by
        by_cases z : x = p
        · rw [z] at hx ⊢; rw [upd_same] at hx; rw [← hx]; exact e2
        · rw [upd_ne z] at hx; exact s _ _ hx
      obtain ⟨By, g1, g2, g3⟩ := toDl (sb.trans s1) s2 h.2 e4
      exact ⟨By, s1.trans g1, g2, .cons (.lst (g1 _ _ upd_same) (dqa_same ((sb.trans s1).trans g1) _ e3)) g3⟩
    cases r with
    | d x =>
      unfold DLl at e
      cases hr : DLl rs with
      | none => rw [hr] at e; cases e
      | some es =>
        rw [hr] at e
        cases e
        obtain ⟨By, g1, g2, g3⟩ := toDl sb s h.2 hr
        exact ⟨By, g1, g2, .cons (dq_same (sb.trans g1) _ h.1) g3⟩
    | o xs =>
      unfold DLl at e
      cases hr : DLl rs with
      | none => rw [hr] at e; cases e
      | some es =>
        rw [hr] at e
        cases e
        obtain ⟨p, us, e1, e2, _, _, _, e3⟩ := h.1
        exact lst e1 e2 e3 hr rfl
    | l xs =>
      unfold DLl at e
      cases hr : DLl rs with
      | none => rw [hr] at e; cases e
      | some es =>
        rw [hr] at e
        cases e
        obtain ⟨p, us, e1, e2, _, e3⟩ := h.1
        exact lst e1 e2 e3 hr rfl
    | v _ => cases e
    | c _ => cases e
  | [], _ :: _, _, _, _, _, h, _ => h.elim
  | _ :: _, [], _, _, _, _, h, _ => h.elim
theorem we_callPk {M : Type} {R : MR M} {K : PySem.W.Frag} {E : XK} {XP : Addr → M → Prop} {ρ : List Sl} {m : M} {k : Rk → M → Prop} {tr : TA} {E' : XK} {pre : List PyData → Prop} {post : List PyData → Rk → Prop}
    (h : WA R K E XP ρ m tr fun rs m1 => ∃ ds, DLl rs = some ds ∧ pre ds ∧ ∀ r, post ds r → ∃ x, r = .d x ∧ isScD x = true ∧ k (.d x) m1) : WE R K E XP ρ m (tCall (spP K pre post) [] E' tr) k := by
  unfold WE WA at *
  intro F0 H0 B0 F H B σ D Q q
  refine h D _ fun vs rs m1 F1 H1 B1 ⟨ds, e, hp, hk⟩ D1 q1 r1 => ?_
  obtain ⟨By, g1, g2, g3⟩ := toDl (Same.refl _) D1.st.s r1 e
  rw [List.append_nil]
  refine ⟨ds, By, g3, g2, hp, fun v r H' B' hr s b t f rel => ?_⟩
  obtain ⟨x, rfl, hx, hkx⟩ := hk r hr
  have hv : v = scV x := dq_scV rel hx
  have hq : Dq K B1 v x := by
    rw [hv]
    cases x <;> first | constructor | cases hx
  exact q v (.d x) m1 F1 H' B1 hkx (D1.pure s (Same.refl _) (D1.st.s.trans s) fun _ _ z => z) (q1.trans (.pure s (Same.refl _) (D1.st.s.trans s) fun _ _ z => z)) hq
/-- what follows is shown once, from what is known behind a statement -/
theorem ws_seqI {M : Type} {R : MR M} {K : PySem.W.Frag} {E : XK} {XP : Addr → M → Prop} {ρ : List Sl} {m : M} {nx bk ct : List Sl → M → Prop} {rt : Rk → M → Prop} {t u : TS} (S : Type) (ρs : S → List Sl) (I : S → Prop) (h : WS R K E XP ρ m t (Nxt S ρs (fun _ => m) I) rt bk ct) (g : ∀ s, I s → WS R K E XP (ρs s) m u nx rt bk ct) : WS R K E XP ρ m (tSeq t u) nx rt bk ct :=
  ws_seq (ws_monoN h fun ρ' m' ⟨s, w, e, i⟩ => by subst e; exact ws_wk w (g s i))
theorem wi_rngLen {M : Type} {R : MR M} {K : PySem.W.Frag} {E : XK} {XP : Addr → M → Prop} {ρ : List Sl} {m : M} {te : TE} {k : List PyData → M → Prop} (h : WE R K E XP ρ m te fun a m1 => ∃ xs, LR a xs ∧ xs.length ≤ 90000 ∧ k (nums 0 xs.length) m1) : WI R K E XP ρ m (iRng1 (tCons (tCB (rLen K) (tCons te tNil)) tNil)) k :=
  wi_rng1 (wa_cons (we_cb (wa_cons (WE.mono h fun a m1 ⟨xs, ha, hl, hk⟩ => wa_nil (cbP_lenL ha (wa_nil ⟨(xs.length : Int), rfl, by omega, by omega, by rw [Int.toNat_natCast]; exact hk⟩))))))
/-! # sorted(d) of a dict whose keys are pairs of texts -/
def kD : Key → PyData
  | .inl i => .int i
  | .inr z => .str z
def keyD (k : List Key) : PyData := .tuple (k.map kD)
/-- a pair of texts -/
def Pr (k : List Key) : Prop := ∃ x y : Str, k = [.inr x, .inr y]
def srtK {α : Type} (zs : List (List Key × α)) : List (List Key × α) := zs.mergeSort (PySem.W.dataLe false fun z => keyD z.1)
def rSortKT : List V → Hp → VK → Prop := fun vs H Q => ∃ (a : Addr) (kvs : List (List Key × V)), vs = [.ref a] ∧ H a = some (.dT kvs) ∧ (∀ z ∈ kvs, Pr z.1) ∧
  ∀ p bs, H p = none → IsKeys H kvs bs → Q (.ref p) (upd H p (.lst ((srtK ((kvs.map Prod.fst).zip bs)).map fun z => V.ref z.2)))
section
open PySem.W PyProof.Rows HT
variable {X : Cx}
theorem keys_each {pins : List (Addr × Obj)} {σ : L2.St} {H : Hp} {s : Shared} (I : Inv X pins σ H s) : ∀ {kvs : List (List Key × V)} {bs : List Addr}, IsKeys H kvs bs → (∀ z ∈ kvs, Pr z.1) →
    EachIs (fun v (z : List Key × Addr) => v = Value.ref z.2 ∧ Reads s.heap v (keyD z.1) [] ∧ H z.2 ≠ none ∧ Pr z.1) (bs.map Value.ref) ((kvs.map Prod.fst).zip bs)
  | [], _, h, _ => by
    cases h
    exact .nil
  | z :: kvs, _, h, hp => by
    cases h with
    | cons h1 h2 =>
      rename_i b bs
      refine .cons ⟨rfl, ?_, by rw [h1]; simp, hp z (List.mem_cons_self ..)⟩ (keys_each I h2 fun y hy => hp y (List.mem_cons_of_mem _ hy))
      obtain ⟨x, y, e⟩ := hp z (List.mem_cons_self ..)
      obtain ⟨its, r, ⟨o, q1, q2, n, q3⟩, _⟩ := I.tuple (sqt h1)
      show Reads s.heap (.ref b) (keyD z.1) []
      rw [e] at r ⊢
      refine .tuple q1 q2 q3 ?_
      cases r with
      | cons r1 r2 =>
        cases r2 with
        | cons r3 r4 =>
          cases r4
          obtain ⟨t1, rfl⟩ := r1
          obtain ⟨t2, rfl⟩ := r3
          exact .cons (.str _ _) (.cons (.str _ _) .nil)
theorem refs_out {R : Value → List Key × Addr → Prop} (hR : ∀ v z, R v z → v = Value.ref z.2) : ∀ {out : List Value} {l : List (List Key × Addr)}, EachIs R out l → Vals (l.map fun z => V.ref z.2) out
  | _, _, .nil => .nil
  | _, _, .cons a b => .cons (hR _ _ a) (refs_out hR b)
/-- the keys of a dict with tuple keys, gathered -/
theorem gather_dT (hc : X.calm = true) {pins : List (Addr × Obj)} {σ : L2.St} {H : Hp} {s : Shared} {d : Addr} {kvs : List (List Key × V)} {R : List Value → Shared → Prop} {E : Value → Shared → Prop} (I : Inv X pins σ H s) (hd : H d = some (.dT kvs))
    (h : ∀ h' tk bs, (∀ b o, s.heap.get? b = some o → h'.get? b = some o) → IsKeys H kvs bs → R (bs.map Value.ref) { s with heap := h', toks := tk }) :
    wpAny (model X.prog X.w) X.A.in1 (collect (.ref d)) R E s := by
  obtain ⟨z, hs, ks, pr, o, es, ep, ho, hx, hdt, he, hn⟩ := (show ObjOk X.prog X.w H s.heap d (.dT kvs) from I.hok d _ hd)
  have l1 : es.size = ks.length := size_of_entries he
  have l2 := Paired.length pr
  refine PySem.W.kdu_collect (A := X.A.in1) (kdl_raw hs hx hdt) (I.ok.hd hc) ho (by omega) fun h' tk acc kp it => ?_
  have hl : acc.toList.length = ks.length := by rw [Array.length_toList, it.1, l1]
  have eb : acc.toList = (ks.map fun x => x.2.1).map Value.ref := by
    rw [List.map_map]
    refine List.ext_getElem? fun j => ?_
    rw [List.getElem?_map]
    by_cases hj : j < ks.length
    · obtain ⟨v, hv⟩ : ∃ v, acc.toList[j]? = some v := ⟨_, List.getElem?_eq_getElem (by omega)⟩
      obtain ⟨en, hen, e2⟩ := it.2 j v (by rw [← Array.getElem?_toList]; exact hv)
      have qe := entry_at he j
      rw [hen, List.getElem?_eq_getElem hj] at qe
      have e3 : en = entryOfKey (tupleKind (mixKind X.prog X.w)) ks[j] := Option.some.inj qe
      rw [hv, List.getElem?_eq_getElem hj, e2, e3]
      rfl
    · rw [List.getElem?_eq_none (by omega), List.getElem?_eq_none (by omega)]
      rfl
  rw [eb]
  exact h h' tk _ kp (isKeys_of pr)
theorem call_sortKT (hc : X.calm = true) (hu : X.A.units + 8 < cLine) : CallR X (.builtin "sorted") rSortKT := by
  intro pins s σ H xs us Q I r q
  obtain ⟨a, kvs, rfl, hd, hpr, q⟩ := q
  obtain rfl := Vals.ref1 r
  refine Calls.call_function_entry PyProof.Rows.kind_sorted PyProof.Rows.plain_sorted PyProof.Rows.entry_sorted (PyProof.Rows.args_sorted1 _) ?_
  unfold Builtin.«sorted»
  refine wpAny_bind (m := checkCount "sorted" 1 1 _) (wpAny_pure ?_)
  refine wpAny_bind (gather_dT hc I hd fun h' tk bs kp hk => ?_)
  have hz : kvs.length ≤ sizeLine := (show ObjOk X.prog X.w H s.heap a (.dT kvs) from I.hok a _ hd).1
  have hlen : bs.length = kvs.length := (Paired.length hk).symm
  have I1 : Inv X pins σ H { s with heap := h', toks := tk } := I.kept kp
  refine wpAny_bind (wpAny_newList ?_ (by rw [List.length_map, hlen]; exact hz))
  have hoL : (h'.push (seqObj "list" (bs.map Value.ref).toArray 0)).get? h'.objs.size = some (seqObj "list" (bs.map Value.ref).toArray 0) := Heap.get?_push_size _ rfl
  have hE := keys_each I1 hk hpr
  have hmem : ∀ z ∈ (kvs.map Prod.fst).zip bs, Pr z.1 := fun z hz => by
    obtain ⟨y, hy, e⟩ := List.mem_map.mp (List.of_mem_zip hz).1
    rw [← e]; exact hpr y hy
  have hlz : ((kvs.map Prod.fst).zip bs).length ≤ sizeLine := by rw [List.length_zip, List.length_map]; omega
  refine wpAny_bind (wpAny_holding (list_sort_data (s := { s with heap := h'.push (seqObj "list" (bs.map Value.ref).toArray 0), toks := tk }) (enc := fun z : List Key × Addr => keyD z.1) (R := fun v z => v = Value.ref z.2) hoL (hE.mono fun _ _ z => z.1)
    (hE.mono fun v z hz => ⟨[], PyProof.Rows.Reads.keeps (fun b o e => Heap.get?_push_of_some _ e) hz.2.1, by simp⟩) (fun d hd d' hd' => ?_) (.inl fun d hd => ?_) hlz (fun z hz => ?_) fun out ho hO => ?_))
  · obtain ⟨z, hz, rfl⟩ := List.mem_map.mp hd
    obtain ⟨z', hz', rfl⟩ := List.mem_map.mp hd'
    obtain ⟨x, y, e⟩ := hmem z hz
    obtain ⟨x', y', e'⟩ := hmem z' hz'
    show alike (keyD z.1) (keyD z'.1) = true
    rw [e, e']
    simp [keyD, kD, alike, alikeAll]
  · obtain ⟨z, hz, rfl⟩ := List.mem_map.mp hd
    obtain ⟨x, y, e⟩ := hmem z hz
    exact ⟨.str x, [.str y], by show keyD z.1 = _; rw [e]; rfl⟩
  · obtain ⟨x, y, e⟩ := hmem z hz
    show X.A.units + 1 + 1 + (keyD z.1).depth < cLine
    rw [e]
    have : (keyD [.inr x, .inr y]).depth = 1 := by simp [keyD, kD, PyData.depth, PyData.depthAll]
    rw [this]
    omega
  · obtain ⟨e', he'⟩ := PyProof.Rows.sortedHeap_at (vs := bs.map Value.ref) (out := out.toArray) hoL
    refine wpAny_pure ⟨_, rfl, .ref h'.objs.size, upd H h'.objs.size (.lst ((srtK ((kvs.map Prod.fst).zip bs)).map fun z => V.ref z.2)), I1.laid (t' := tk) (fun b u e => ?_) (Nat.le_refl _) ⟨?_, out, e', by unfold srtK; exact refs_out (fun _ _ z => z) hO, he'⟩, rfl, q _ _ (I1.hok.fresh (Nat.le_refl _)) hk⟩
    · have hb : b < h'.objs.size := Heap.lt_size e
      rw [PyProof.Rows.sortedHeap_old (Nat.ne_of_lt hb) (by rw [size_push']; exact Nat.lt_succ_of_lt hb)]
      exact Heap.get?_push_of_some _ e
    · unfold srtK
      rw [List.length_map, List.length_mergeSort]; exact hlz
end
/-! ## the entries of a table, in order -/
def srtT (tab : Tab) : Tab := srtK tab
def entRow (z : List Key × PyData) : PyData := match z.2 with
  | .tuple xs => .tuple (z.1.map kD ++ xs)
  | _ => .none
def entsD (tab : Tab) : List PyData := (srtT tab).map entRow
/-- what a table of objects is like -/
structure TabOk (tab : Tab) : Prop where
  nd : (tab.map Prod.fst).Nodup
  k : ∀ z ∈ tab, Pr z.1
  v : ∀ z ∈ tab, ∃ b v c, z.2 = .tuple [.int b, .int v, c]
theorem lk_mem : ∀ {tab : Tab} {z : List Key × PyData}, (tab.map Prod.fst).Nodup → z ∈ tab → lkD tab z.1 = some z.2
  | [], _, _, h => by cases h
  | y :: tab, z, nd, h => by
    rw [List.map_cons, List.nodup_cons] at nd
    unfold lkD
    rw [List.find?_cons]
    rcases List.mem_cons.mp h with rfl | h
    · rw [decide_eq_true rfl]; rfl
    · have hne : ¬ y.1 = z.1 := fun e => nd.1 (by rw [e]; exact List.mem_map_of_mem h)
      rw [decide_eq_false hne]
      exact lk_mem nd.2 h
theorem mem_lk {tab : Tab} {k : List Key} {d : PyData} (h : lkD tab k = some d) : (k, d) ∈ tab := by
  unfold lkD at h
  cases hf : tab.find? fun z => decide (z.1 = k) with
  | none => rw [hf] at h; cases h
  | some z =>
    rw [hf] at h
    have h1 := List.mem_of_find?_eq_some hf
    have h2 := List.find?_some hf
    have e : z.1 = k := of_decide_eq_true h2
    cases h
    rw [← e]; exact h1
theorem srt_map {α β : Type} (f : α → β) (zs : List (List Key × α)) : (srtK zs).map (fun z => (z.1, f z.2)) = srtK (zs.map fun z => (z.1, f z.2)) :=
  List.map_mergeSort fun _ _ _ _ => rfl
theorem srt_mem {α : Type} {zs : List (List Key × α)} {z : List Key × α} : z ∈ srtK zs ↔ z ∈ zs := List.mem_mergeSort
theorem srt_len {α : Type} (zs : List (List Key × α)) : (srtK zs).length = zs.length := List.length_mergeSort _
theorem keys_join {K : PySem.W.Frag} {B H : Hp} : ∀ {kvs : List (List Key × V)} {bs : List Addr} {tab : Tab}, IsKeys H kvs bs → TRel K B kvs tab →
    ∃ Z : List (List Key × Addr × PyData), (kvs.map Prod.fst).zip bs = Z.map (fun z => (z.1, z.2.1)) ∧ tab = Z.map (fun z => (z.1, z.2.2)) ∧ ∀ z ∈ Z, H z.2.1 = some (.tup (z.1.map kV))
  | [], _, _, hk, ht => by
    cases hk
    cases ht
    exact ⟨[], rfl, rfl, fun _ h => by cases h⟩
  | kv :: kvs, _, _, hk, ht => by
    cases hk with
    | cons h1 h2 =>
      cases ht with
      | cons h3 h4 =>
        rename_i b bs _ _ d tab
        obtain ⟨Z, e1, e2, e3⟩ := keys_join h2 h4
        rename_i k0 v0
        refine ⟨(k0, b, d) :: Z, ?_, ?_, fun z hz => ?_⟩
        · rw [List.map_cons, List.map_cons, List.zip_cons_cons, e1]
        · rw [List.map_cons, ← e2]
        · rcases List.mem_cons.mp hz with rfl | hz
          · exact h1
          · exact e3 z hz
section
variable {K : PySem.W.Frag} {C P : Addr} {q : Str} {E : XK} {XP : Addr → SM → Prop} {ρ : List Sl} {m : SM} {k : Rk → SM → Prop} {i j : Nat}
theorem we_ents (hC : Cls K C) (hN : NoAttr K C "_table") (hi : ρ[i]? = some (.v (.ref m.s))) (hij : i ≠ j) (hj : j < ρ.length) (hT : TabOk m.tab) (hl : m.tab.length ≤ 80000) (hk : k (.o (entsD m.tab)) m) :
    WE (stoR K C P q) K E XP ρ m (tLc (iList K (tCB rSortKT (tCons (tFld K (tVar i) "_table") tNil))) (gName j) tYes (tOp (rCatA K) (tVar j) (tDGet (tFld K (tVar i) "_table") (tVar j))) [j]) k := by
  unfold WE
  intro F0 H0 B0 F H B σ D Q qq
  obtain ⟨w, h1, h2⟩ := D.s i _ hi
  cases (show w = some (.ref m.s) from h2)
  obtain ⟨dx, h3⟩ := D.r.1
  obtain ⟨kvs, h4, h5⟩ := D.r.2.1
  refine ⟨_, h1, m.s, C, dx, _, _, rfl, h3, hC, hN, rfl, m.t, kvs, rfl, h4, fun z hz => ?_, fun p bs hp hkeys => ⟨p, rfl, ⟨_, sql upd_same⟩, fun A hA => ?_⟩⟩
  · have : z.1 ∈ m.tab.map Prod.fst := by rw [← h5.keys]; exact List.mem_map_of_mem hz
    obtain ⟨y, hy, e⟩ := List.mem_map.mp this
    rw [← e]; exact hT.k y hy
  obtain ⟨Z, z1, z2, z3⟩ := keys_join hkeys h5
  have hZ1 : (srtK ((kvs.map Prod.fst).zip bs)) = (srtK Z).map fun z => (z.1, z.2.1) := by rw [z1]; exact (srt_map Prod.fst Z).symm
  have hZ2 : srtT m.tab = (srtK Z).map fun z => (z.1, z.2.2) := by unfold srtT; rw [z2]; exact (srt_map Prod.snd Z).symm
  have hZm : ∀ z ∈ srtK Z, (z.1, z.2.2) ∈ m.tab ∧ H z.2.1 = some (.tup (z.1.map kV)) := fun z hz => by
    have := srt_mem.mp hz
    exact ⟨by rw [z2]; exact List.mem_map.mpr ⟨z, this, rfl⟩, z3 z this⟩
  have hent : entsD m.tab = (srtK Z).map fun z => entRow (z.1, z.2.2) := by
    unfold entsD
    rw [hZ2, List.map_map]; rfl
  have hzl : (srtK Z).length ≤ 80000 := by
    rw [srt_len]
    have := congrArg List.length z2
    rw [List.length_map] at this
    omega
  have hL : ((srtK ((kvs.map Prod.fst).zip bs)).map fun z => V.ref z.2) = (srtK Z).map fun z => V.ref z.2.1 := by rw [hZ1, List.map_map]; rfl
  rw [hL] at hA ⊢
  generalize hZs : srtK Z = S at *
  have D1 := D.newO (o := .lst (S.map fun z => V.ref z.2.1)) hp
  have q1 : Stq F H B F (upd H p (.lst (S.map fun z => V.ref z.2.1))) B := .newO D.st.s hp
  generalize hH1 : upd H p (.lst (S.map fun z => V.ref z.2.1)) = H1 at *
  have hp1 : H1 p = some (.lst (S.map fun z => V.ref z.2.1)) := by rw [← hH1]; exact upd_same
  have sH : Same H H1 := by rw [← hH1]; exact same_upd hp
  have hA0 : H0 A = none := Classical.byContradiction fun z => D1.st.e A z hA
  have hAn : ∀ (i : Nat) (xs : List PyData), ρ[i]? = some (.o xs) → σ[i]? ≠ some (some (.ref A)) := fun i xs g1 g2 => D1.own i xs A g1 g2 hA
  have hjl : j < σ.length := by rw [D.l]; exact hj
  have hbA : B A = none := b_none D1.st.s hA
  refine lc_it (walk_list (K := K) (a := p) (xs := S.map fun z => V.ref z.2.1)) (fun n G => ∃ B' us, DS (stoR K C P q) K E XP F0 H0 B0 F G B' σ ρ m ∧ Stq F H1 B F G B' ∧ Same H1 G ∧ G A = some (.lst us) ∧ B' A = none ∧ ¬ F A ∧ DqAll K B' us ((S.map fun z => entRow (z.1, z.2.2)).take n))
    ⟨B, [], D1.newO hA, .newO D1.st.s hA, same_upd hA, upd_same, hbA, D1.nF hA, .nil⟩ (fun n G _ ⟨_, _, _, _, s', _⟩ => sql (s' _ _ hp1)) ?_ ?_
  · rintro n x G G2 hn ⟨B', us, D', q', s', eA, bA, fA, hd⟩ ⟨rfl, hx⟩
    rw [List.length_map] at hn
    rw [List.getElem?_map, List.getElem?_eq_getElem hn] at hx
    cases hx
    obtain ⟨hm, hkey⟩ := hZm _ (List.getElem_mem hn)
    generalize hz : S[n] = z at hm hkey
    obtain ⟨kk, b, d⟩ := z
    obtain ⟨x, y, rfl⟩ : Pr kk := hT.k _ hm
    obtain ⟨bo, v, c, rfl⟩ := hT.v _ hm
    have hkG : G2 b = some (.tup [.str x, .str y]) := s' _ _ (sH _ _ hkey)
    have hlk := lk_mem hT.nd hm
    obtain ⟨dx', g3⟩ := D'.r.1
    obtain ⟨kvs', g4, g5⟩ := D'.r.2.1
    obtain ⟨u, e1, e3⟩ : ∃ u, valV kvs' [.inr x, .inr y] = some u ∧ Dq K B' u (.tuple [.int bo, .int v, c]) := by
      rcases g5.get [.inr x, .inr y] with ⟨_, e2⟩ | ⟨u, d', e1, e2, e3⟩
      · rw [hlk] at e2; cases e2
      · rw [hlk] at e2; cases e2; exact ⟨u, e1, e3⟩
    obtain ⟨pe, ve, rfl, w1, w2⟩ := dq_tup e3
    have wl := dqa_len w2
    have hset : wipe ((wipe σ [j]).set j (some (V.ref b))) [j] = wipe σ [j] := by
      rw [wipe_set (List.mem_singleton.mpr rfl)]; exact wipe_idem σ [j]
    refine ⟨hset, ?_⟩
    unfold tYes
    refine (if_pos rfl).mpr ⟨V.ref b, List.getElem?_set_self (by rw [wipe_length]; exact hjl), ?_⟩
    have hsi : ((wipe σ [j]).set j (some (V.ref b)))[i]? = some (some (V.ref m.s)) := by
      rw [List.getElem?_set_ne (fun z => hij z.symm), wipe_out (fun z => hij (List.mem_singleton.mp z))]
      exact h1
    refine ⟨_, hsi, m.s, C, dx', _, _, rfl, g3, hC, hN, rfl, V.ref b, List.getElem?_set_self (by rw [wipe_length]; exact hjl), m.t, .ref pe, rfl, ?_, ?_⟩
    · rw [← e1]; exact DGet.t g4 hkG
    refine ⟨b, pe, [.str x, .str y], ve, rfl, rfl, sqt hkG, sqt_same D'.st.s w1, sz (by rw [wl]; show 2 + 3 ≤ _; omega), fun e => (by cases e), fun _ e => (by rw [e] at wl; cases wl), fun _ _ t ht => ?_⟩
    have hAt : A ≠ t := fun e => by rw [← e, eA] at ht; cases ht
    have D2 := D'.newD (o := .tup ([.str x, .str y] ++ ve)) ht
    have q2 : Stq F G2 B' F _ _ := .newD (o := .tup ([.str x, .str y] ++ ve)) D'.st.s ht
    have hd2 : DqAll K (upd B' t (.tup ([.str x, .str y] ++ ve))) us ((S.map fun z => entRow (z.1, z.2.2)).take n) := dqa_same q2.b _ hd
    have eA2 : upd G2 t (.tup ([.str x, .str y] ++ ve)) A = some (.lst us) := by rw [upd_ne hAt]; exact eA
    have bA2 : upd B' t (.tup ([.str x, .str y] ++ ve)) A = none := by rw [upd_ne hAt]; exact bA
    have hrow : Dq K (upd B' t (.tup ([.str x, .str y] ++ ve))) (.ref t) (entRow ([.inr x, .inr y], .tuple [.int bo, .int v, c])) :=
      .tup upd_same (.cons (.str x) (.cons (.str y) (dqa_same q2.b _ w2)))
    have htk : ((S.map fun z => entRow (z.1, z.2.2)).take (n + 1)) = ((S.map fun z => entRow (z.1, z.2.2)).take n) ++ [entRow ([.inr x, .inr y], .tuple [.int bo, .int v, c])] :=
      take_succ_app (by rw [List.getElem?_map, List.getElem?_eq_getElem hn, hz]; rfl)
    have hul := dqa_len hd
    rw [List.length_take] at hul
    refine ⟨us, eA2, szl (by omega), _, us ++ [.ref t], D2.putN bA2 fA hA0 hAn, (q'.trans q2).put hA bA2, fun a o ha => ?_, upd_same, bA2, fA, by rw [htk]; exact dqa_app hd2 (.cons hrow .nil)⟩
    have hAa : a ≠ A := fun e => by rw [e, hA] at ha; cases ha
    rw [upd_ne hAa]
    have := s' a o ha
    rw [upd_ne (fun e => by rw [e, ht] at this; cases this)]
    exact this
  · rintro G ⟨B', us, D', q', s', eA, bA, fA, hd⟩
    rw [List.length_map, ← List.length_map (f := fun z : List Key × Addr × PyData => entRow (z.1, z.2.2)), List.take_length, ← hent] at hd
    exact qq _ _ m F G B' hk D' (q1.trans q') ⟨A, us, rfl, eA, bA, fA, Classical.byContradiction fun z => q1.e A z hA, hd⟩
end
/-! ## a list is shown to a def that answers with a scalar or a new list of scalars -/
theorem dqa_sc2 {K : PySem.W.Frag} {B B' : Hp} : ∀ {vs : List V} {xs : List PyData}, DqAll K B vs xs → xs.all isScD = true → DqAll K B' vs xs
  | _, _, .nil, _ => .nil
  | _, _, .cons (d := x) h a, e => by
    rw [List.all_cons, Bool.and_eq_true] at e
    have hv := dq_scV h e.1
    refine .cons ?_ (dqa_sc2 a e.2)
    rw [hv]
    cases x <;> first | constructor | cases e.1
def scR : Rk → Bool
  | .d x => isScD x
  | .o xs => xs.all isScD
  | _ => false
theorem we_callPl {M : Type} {R : MR M} {K : PySem.W.Frag} {E : XK} {XP : Addr → M → Prop} {ρ : List Sl} {m : M} {k : Rk → M → Prop} {tr : TA} {E' : XK} {pre : List PyData → Prop} {post : List PyData → Rk → Prop}
    (h : WA R K E XP ρ m tr fun rs m1 => ∃ ds, DLl rs = some ds ∧ pre ds ∧ ∀ r, post ds r → scR r = true ∧ k r m1) : WE R K E XP ρ m (tCall (spP K pre post) [] E' tr) k := by
  unfold WE WA at *
  intro F0 H0 B0 F H B σ D Q q
  refine h D _ fun vs rs m1 F1 H1 B1 ⟨ds, e, hp, hk⟩ D1 q1 r1 => ?_
  obtain ⟨By, g1, g2, g3⟩ := toDl (Same.refl _) D1.st.s r1 e
  rw [List.append_nil]
  refine ⟨ds, By, g3, g2, hp, fun v r H' B' hr s b t f rel => ?_⟩
  obtain ⟨hx, hkx⟩ := hk r hr
  refine q v r m1 F1 H' B1 hkx (D1.pure s (Same.refl _) (D1.st.s.trans s) fun _ _ z => z) (q1.trans (.pure s (Same.refl _) (D1.st.s.trans s) fun _ _ z => z)) ?_
  cases r with
  | d x =>
    have hv : v = scV x := dq_scV rel hx
    show Dq K B1 v x
    rw [hv]
    cases x <;> first | constructor | cases hx
  | o xs =>
    obtain ⟨p, vs, rfl, w1, w2, w3, w4⟩ := rel
    exact ⟨p, vs, rfl, w1, b_none D1.st.s w3, D1.nF w3, Classical.byContradiction fun z => q1.e p z w3, dqa_sc2 w4 hx⟩
  | l _ => cases hx
  | v _ => cases hx
  | c _ => cases hx
/-! # digits of a script's cells -/
/-! the digits of a script's cell -/
def Digs : List Int → List Int → Prop
  | [], [] => True
  | d :: ds, z :: zs => (0 ≤ d ∧ d < z) ∧ Digs ds zs
  | _, _ => False
theorem digs_snoc : ∀ {ds zs : List Int} {d z : Int}, Digs ds zs → 0 ≤ d → d < z → Digs (ds ++ [d]) (zs ++ [z])
  | [], [], _, _, _, h0, h1 => ⟨⟨h0, h1⟩, trivial⟩
  | _ :: _, _ :: _, _, _, h, h0, h1 => ⟨h.1, digs_snoc h.2 h0 h1⟩
theorem digs_len : ∀ {ds zs : List Int}, Digs ds zs → ds.length = zs.length
  | [], [], _ => rfl
  | _ :: ds, _ :: zs, h => by rw [List.length_cons, List.length_cons, digs_len h.2]
theorem digs1 {ds : List Int} {z : Int} (h : Digs ds [z]) : ∃ d, ds = [d] ∧ 0 ≤ d ∧ d < z := by
  match ds, h with
  | [d], h => exact ⟨d, rfl, h.1.1, h.1.2⟩
  | _ :: _ :: _, h => exact h.2.elim
theorem digs2 {ds : List Int} {z y : Int} (h : Digs ds [z, y]) : ∃ d e, ds = [d, e] ∧ (0 ≤ d ∧ d < z) ∧ (0 ≤ e ∧ e < y) := by
  match ds, h with
  | d :: es, h => obtain ⟨e, rfl, h1⟩ := digs1 h.2; exact ⟨d, e, rfl, h.1, h1⟩
theorem digs3 {ds : List Int} {z y x : Int} (h : Digs ds [z, y, x]) : ∃ d e f, ds = [d, e, f] ∧ (0 ≤ d ∧ d < z) ∧ (0 ≤ e ∧ e < y) ∧ (0 ≤ f ∧ f < x) := by
  match ds, h with
  | d :: es, h => obtain ⟨e, f, rfl, h1⟩ := digs2 h.2; exact ⟨d, e, f, rfl, h.1, h1⟩
theorem digs4 {ds : List Int} {z y x w : Int} (h : Digs ds [z, y, x, w]) : ∃ d e f g, ds = [d, e, f, g] ∧ (0 ≤ d ∧ d < z) ∧ (0 ≤ e ∧ e < y) ∧ (0 ≤ f ∧ f < x) ∧ (0 ≤ g ∧ g < w) := by
  match ds, h with
  | d :: es, h => obtain ⟨e, f, g, rfl, h1⟩ := digs3 h.2; exact ⟨d, e, f, g, rfl, h.1, h1⟩
theorem digs5 {ds : List Int} {z y x w v : Int} (h : Digs ds [z, y, x, w, v]) : ∃ d e f g k, ds = [d, e, f, g, k] ∧ (0 ≤ d ∧ d < z) ∧ (0 ≤ e ∧ e < y) ∧ (0 ≤ f ∧ f < x) ∧ (0 ≤ g ∧ g < w) ∧ (0 ≤ k ∧ k < v) := by
  match ds, h with
  | d :: es, h => obtain ⟨e, f, g, k, rfl, h1⟩ := digs4 h.2; exact ⟨d, e, f, g, k, rfl, h.1, h1⟩
theorem digs6 {ds : List Int} {z y x w v u : Int} (h : Digs ds [z, y, x, w, v, u]) : ∃ d e f g k l, ds = [d, e, f, g, k, l] ∧ (0 ≤ d ∧ d < z) ∧ (0 ≤ e ∧ e < y) ∧ (0 ≤ f ∧ f < x) ∧ (0 ≤ g ∧ g < w) ∧ (0 ≤ k ∧ k < v) ∧ (0 ≤ l ∧ l < u) := by
  match ds, h with
  | d :: es, h => obtain ⟨e, f, g, k, l, rfl, h1⟩ := digs5 h.2; exact ⟨d, e, f, g, k, l, rfl, h.1, h1⟩
theorem digs8 {ds : List Int} {z y x w v u t s : Int} (h : Digs ds [z, y, x, w, v, u, t, s]) : ∃ d e f g k l m n, ds = [d, e, f, g, k, l, m, n] ∧ (0 ≤ d ∧ d < z) ∧ (0 ≤ e ∧ e < y) ∧ (0 ≤ f ∧ f < x) ∧ (0 ≤ g ∧ g < w) ∧ (0 ≤ k ∧ k < v) ∧ (0 ≤ l ∧ l < u) ∧ (0 ≤ m ∧ m < t) ∧ (0 ≤ n ∧ n < s) := by
  match ds, h with
  | d :: e :: es, h => obtain ⟨f, g, k, l, m, n, rfl, h1⟩ := digs6 h.2.2; exact ⟨d, e, f, g, k, l, m, n, rfl, h.1, h.2.1, h1⟩
def sp_num (K : PySem.W.Frag) : Sp := fun vs H Q _ => ∃ (a : Addr) (ns : List Int) (k : Int), vs = [.ref a, .int k] ∧ SqL K H a (ns.map V.int) ∧ (0 ≤ k ∧ k ≤ 10000) ∧ ∀ n : Int, 0 ≤ n → Q (.int n) H
def sp_digits (K : PySem.W.Frag) : Sp := fun vs H Q _ => ∃ (a b : Addr) (ns zs : List Int) (k : Int), vs = [.ref a, .int k, .ref b] ∧ SqL K H a (ns.map V.int) ∧ (0 ≤ k ∧ k ≤ 10000) ∧ SqL K H b (zs.map V.int) ∧ zs.length ≤ 1000 ∧ (∀ z ∈ zs, 0 < z ∧ z < 1073741824) ∧
  ∀ (p : Addr) (H' : Hp) (ds : List Int), H p = none → Same H H' → H' p = some (.lst (ds.map V.int)) → Digs ds zs → Q (.ref p) H'
/-! ## the script, as a part of the state: it only is read -/
def scrR (K : PySem.W.Frag) : MR (Addr × List Int) where
  rel := fun m F H B => (∃ u, H m.1 = some u ∧ Rd H m.1 (.lst (m.2.map V.int)) ∧ (∀ x, F x ↔ x = m.1) ∧ B m.1 = none) ∨ ((∀ G, SqL K G m.1 (m.2.map V.int)) ∧ ∀ x, ¬ F x)
  frame := fun {m F H B H' B'} h e s n => by
    rcases h with ⟨u, h1, h2, h3, h4⟩ | h
    · have eH : H' m.1 = H m.1 := e _ ((h3 _).mpr rfl)
      refine .inl ⟨u, by rw [eH]; exact h1, ?_, h3, n _ ((h3 _).mpr rfl)⟩
      unfold Rd at h2 ⊢
      rw [eH]; exact h2
    · exact .inr h
  dom := fun {m F H B x} h hx => by
    rcases h with ⟨u, h1, h2, h3, h4⟩ | ⟨h1, h2⟩
    · rw [(h3 x).mp hx]; exact ⟨by rw [h1]; simp, h4⟩
    · exact absurd hx (h2 x)
theorem scr_sql {K : PySem.W.Frag} {m : Addr × List Int} {F : AP} {H B : Hp} (h : (scrR K).rel m F H B) : SqL K H m.1 (m.2.map V.int) := by
  rcases h with ⟨u, h1, h2, h3, h4⟩ | ⟨h1, h2⟩
  · exact .inl h2
  · exact h1 H
/-- what is read of the script in the beginning -/
theorem scr_new {K : PySem.W.Frag} {H : Hp} {a : Addr} {ns : List Int} (h : SqL K H a (ns.map V.int)) : ∃ F2 : AP, (∀ B : Hp, B a = none → (scrR K).rel (a, ns) F2 H B) ∧ (∀ x, F2 x → x = a ∧ H a ≠ none) := by
  rcases h with h | h
  · have hu : ∃ u, H a = some u := by
      rcases h with h | ⟨o, h⟩
      · exact ⟨_, h⟩
      · exact ⟨_, h⟩
    obtain ⟨u, hu⟩ := hu
    exact ⟨fun x => x = a, fun B hb => .inl ⟨u, hu, h, fun _ => Iff.rfl, hb⟩, fun x hx => ⟨hx, by rw [hu]; simp⟩⟩
  · exact ⟨fun _ => False, fun B _ => .inr ⟨fun G => .inr h, fun _ => id⟩, fun x hx => hx.elim⟩
theorem we_dig {M : Type} {R : MR M} {get : M → Addr × List Int} {set : M → Addr × List Int → M} {K : PySem.W.Frag} {E : XK} {XP : Addr → M → Prop} {ρ : List Sl} {m : M} {k : Rk → M → Prop} {tr : TA} {E' : XK} (L : Part R (scrR K) get set) (zs : List Int) (h2 : zs.length ≤ 1000) (h3 : ∀ z ∈ zs, 0 < z ∧ z < 1073741824)
    (h : WA R K E XP ρ m tr fun rs m1 => ∃ (j : Int) (r : Rk), rs = [.v (.ref (get m1).1), .d (.int j), r] ∧ LR r (zs.map .int) ∧ 0 ≤ j ∧ j ≤ 10000 ∧ ∀ ds : List Int, Digs ds zs → k (.o (ds.map .int)) m1) : WE R K E XP ρ m (tCall (sp_digits K) [] E' tr) k := by
  unfold WE WA at *
  intro F0 H0 B0 F H B σ D Q q
  refine h D _ fun vs rs m1 F1 H1 B1 ⟨j, r, e, hl, h0, h1, hk⟩ D1 q1 r1 => ?_
  subst e
  rw [List.append_nil]
  match vs, r1 with
  | [v1, v2, v3], ⟨g1, g2, g3, _⟩ =>
    cases (show v1 = .ref (get m1).1 from g1)
    cases dq_int g2
    obtain ⟨p, us, rfl, w1, w2⟩ := rel_lst D1.st.s g3 hl
    obtain ⟨F2, r2, _⟩ := L.on D1.r
    have eu : us = zs.map V.int := by
      have : ∀ {us : List V} {zs : List Int}, DqAll K B1 us (zs.map .int) → us = zs.map V.int := fun {us zs} => by
        induction zs generalizing us with
        | nil => intro h; cases h; rfl
        | cons z zs ih =>
          intro h
          cases h with
          | cons a b => rw [dq_int a, ih b]; rfl
      exact this w2
    subst eu
    refine ⟨_, p, _, zs, j, rfl, scr_sql r2, ⟨h0, h1⟩, sql w1, h2, h3, fun p' H' ds hp s2 hH' hD => ?_⟩
    refine q (.ref p') (.o (ds.map .int)) m1 F1 H' B1 (hk ds hD) (D1.pure s2 (Same.refl _) (D1.st.s.trans s2) fun _ _ z => z) (q1.trans (.pure s2 (Same.refl _) (D1.st.s.trans s2) fun _ _ z => z)) ⟨p', _, rfl, hH', b_none D1.st.s hp, D1.nF hp, Classical.byContradiction fun z => q1.e p' z hp, ?_⟩
    exact dqa_nums _ _
/-! ## a def's body, entered with what stands -/
theorem enterG {M : Type} {R : MR M} {K : PySem.W.Frag} {E : XK} {m : M} {F : AP} {H B : Hp} {σ : L2.St} {ρ : List Sl} {ts : TS} {D : Ends} {rt : Rk → M → Prop} (hR : R.rel m F H B) (hB : Same B H) (hl : σ.length = ρ.length)
    (hs : ∀ (i : Nat) (t : Sl), ρ[i]? = some t → ∃ w, σ[i]? = some w ∧ (t = .u ∨ ∃ x, t = .v x ∧ w = some x))
    (fin : ∀ v r m' F' H' B', rt r m' → Stq F H B F' H' B' → R.rel m' F' H' B' → RelR K H F' H' B' v r → D.rt v H')
    (body : WS R K E (fun _ _ => False) ρ m ts (fun _ _ => False) rt (fun _ _ => False) (fun _ _ => False)) : ts D σ H := by
  have nu : ∀ (i : Nat) (xs : List PyData), ρ[i]? ≠ some (.o xs) := fun i xs e => by
    obtain ⟨w, _, z | ⟨x, z, _⟩⟩ := hs i _ e <;> cases z
  have D0 : DS R K E (fun _ _ => False) F H B F H B σ ρ m := by
    refine ⟨hl, .refl hB, hR, fun i t ht => ?_, fun i j p xs ys h1 => absurd h1 (nu i xs), fun _ _ _ _ _ z => z.elim⟩
    obtain ⟨w, h1, rfl | ⟨x, rfl, rfl⟩⟩ := hs i t ht
    · exact ⟨w, h1, True.intro⟩
    · exact ⟨_, h1, rfl⟩
  unfold WS at body
  exact body _ D0 (fun z => z.elim) (fun {v r m' F' H' B'} hk st hF rel => fin v r m' F' H' B' hk st hF rel) (fun z => z.elim) (fun z => z.elim)
/-- a new store and the script -/
theorem st2_new {K : PySem.W.Frag} {H : Hp} {C P a s t c dx : Addr} {q : Str} {ns : List Int} (hs : H s = some (.ins C dx (fSto (sm0 s t c)))) (ht : H t = some (.dT [])) (hc : H c = some (.lst [])) (hT : LamX.TabS H P q) (hS : (Rd H a (.lst (ns.map V.int)) ∧ a ≠ c) ∨ ∀ G, SqL K G a (ns.map V.int)) :
    ∃ F, (prM (stoR K C P q) (scrR K)).rel (sm0 s t c, (a, ns)) F H (fun _ => none) := by
  obtain ⟨tb, h1, h2, h3⟩ := hT
  obtain ⟨F2, r2, f2, hac⟩ : ∃ F2 : AP, (∀ B : Hp, B a = none → (scrR K).rel (a, ns) F2 H B) ∧ (∀ x, F2 x → x = a ∧ H a ≠ none) ∧ ∀ x, F2 x → a ≠ c := by
    rcases hS with ⟨h, n⟩ | h
    · have hu : ∃ u, H a = some u := by
        rcases h with h | ⟨o, h⟩
        · exact ⟨_, h⟩
        · exact ⟨_, h⟩
      obtain ⟨u, hu⟩ := hu
      exact ⟨fun x => x = a, fun B hb => .inl ⟨u, hu, h, fun _ => Iff.rfl, hb⟩, fun x hx => ⟨hx, by rw [hu]; simp⟩, fun _ _ => n⟩
    · exact ⟨fun _ => False, fun B _ => .inr ⟨h, fun _ => id⟩, fun x hx => hx.elim, fun x hx => hx.elim⟩
  have hd : ∀ x, F2 x → ∀ u, H x = some u → (∀ ys, u = .lst ys → x = a) ∧ (∀ C dx fs, u ≠ .ins C dx fs) ∧ u ≠ .dT [] ∧ (∀ ps, u ≠ .tbl ps) ∧ ∀ q, u ≠ LamX.CodeO x q := fun x hx u e => by
    obtain ⟨rfl, _⟩ := f2 x hx
    have hu : (∃ ys, u = .lst ys) ∨ ∃ o ys, u = .frz o (.lst ys) := by
      rcases r2 (fun _ => none) rfl with ⟨u', g1, g2, _⟩ | ⟨_, g2⟩
      · rcases g2 with g2 | ⟨o, g2⟩
        · rw [e] at g2; cases g2; exact .inl ⟨_, rfl⟩
        · rw [e] at g2; cases g2; exact .inr ⟨_, _, rfl⟩
      · exact absurd hx (g2 _)
    refine ⟨fun _ _ => rfl, fun C dx fs z => ?_, fun z => ?_, fun ps z => ?_, fun q z => ?_⟩
    all_goals (rcases hu with ⟨ys, rfl⟩ | ⟨o, ys, rfl⟩ <;> first | cases z | (unfold LamX.CodeO at z; cases z))
  let F1 : AP := fun x => x = s ∨ x = t ∨ x = c ∨ x = P ∨ H x = some (LamX.CodeO x q)
  have dj : ∀ x, F1 x → ¬ F2 x := fun x h1' h2' => by
    rcases h1' with e | e | e | e | e
    · subst e; exact (hd _ h2' _ hs).2.1 _ _ _ rfl
    · subst e; exact (hd _ h2' _ ht).2.2.1 rfl
    · exact hac x h2' ((f2 x h2').1.symm.trans e)
    · subst e; exact (hd _ h2' _ h1).2.2.2.1 _ rfl
    · exact (hd _ h2' _ e).2.2.2.2 _ rfl
  have hdom : ∀ x, F1 x → H x ≠ none ∧ (fun _ => none : Hp) x = none := fun x hx => by
    refine ⟨?_, rfl⟩
    rcases hx with e | e | e | e | e
    · subst e; rw [hs]; simp
    · subst e; rw [ht]; simp
    · subst e; rw [hc]; simp
    · subst e; rw [h1]; simp
    · rw [e]; simp
  exact ⟨fun x => F1 x ∨ F2 x, F1, F2, fun _ => Iff.rfl, dj, ⟨⟨dx, hs⟩, ⟨[], ht, .nil⟩, ⟨[], hc, .nil⟩, ⟨tb, h1, h2, fun pos cv e => by
    obtain ⟨x, e1, e2⟩ := h3 pos cv e
    exact ⟨x, e1, e2, .inr (.inr (.inr (.inr e2)))⟩⟩, .inl rfl, .inr (.inl rfl), .inr (.inr (.inl rfl)), .inr (.inr (.inr (.inl rfl))), hdom⟩, r2 _ rfl⟩
/-- the script is read as before, behind what is new -/
theorem scr_keep {K : PySem.W.Frag} {H H2 : Hp} {a c : Addr} {ns : List Int} (hS : SqL K H a (ns.map V.int)) (k : ∀ y o, H y = some o → H2 y = some o) (hc : H c = none) : (Rd H2 a (.lst (ns.map V.int)) ∧ a ≠ c) ∨ ∀ G, SqL K G a (ns.map V.int) := by
  rcases hS with (h | ⟨o, h⟩) | h
  · exact .inl ⟨.inl (k _ _ h), fun z => by rw [z, hc] at h; cases h⟩
  · exact .inl ⟨.inr ⟨o, k _ _ h⟩, fun z => by rw [z, hc] at h; cases h⟩
  · exact .inr fun G => .inr h
abbrev R2 (K : PySem.W.Frag) (C P : Addr) (q : Str) : MR (SM × Addr × List Int) := prM (stoR K C P q) (scrR K)
def sp_filled (K : PySem.W.Frag) (C P : Addr) (q : Str) (Good : SM → Prop) : Sp := fun vs H Q _ => ∃ (a : Addr) (ns : List Int), vs = [.ref a] ∧ SqL K H a (ns.map V.int) ∧ LamX.TabS H P q ∧ ∀ m F B H', Good m → (R2 K C P q).rel (m, a, ns) F H' B → Same B H' → Q (.ref m.s) H'
/-! ## (a, b, ..) = a list -/
theorem pgK_unl {K : PySem.W.Frag} {X : Cx} {pos : Pos} {es : List Expr} {k : Nat} {t : TGs} {n : Nat} (hK : X.K = K) (hc : X.calm = true) (h : PGs X es t) (hn : (assignEach es X.env).length = n := by rfl) (hst : (assignEach es X.env).findIdx? (·.1) = none := by rfl) : PG X (.Tuple es k pos) (gUnl K n t) := by subst hK; exact pg_unl hc h hn hst
theorem ws_asgU {M : Type} {R : MR M} {K : PySem.W.Frag} {E : XK} {XP : Addr → M → Prop} {ρ : List Sl} {m : M} {nx : List Sl → M → Prop} {rt : Rk → M → Prop} {bk ct : List Sl → M → Prop} {te : TE} {gs : TGs} {n : Nat} (h : WE R K E XP ρ m te fun r m1 => ∃ xs, LR r xs ∧ xs.length = n ∧ WGs R K E XP ρ m1 gs xs fun ρ' => nx ρ' m1) : WS R K E XP ρ m (tAsg te (gUnl K n gs)) nx rt bk ct := by
  unfold WE at h
  unfold WS
  intro F0 H0 B0 F H B σ D d n' _ _ _
  refine h d _ fun v r m1 F1 H1 B1 ⟨xs, hl, hn, k1⟩ D1 q1 r1 => ?_
  unfold WGs at k1
  obtain ⟨p, vs, rfl, w1, w2⟩ := rel_lst D1.st.s r1 hl
  exact ⟨p, vs, rfl, sql w1, by rw [dqa_len w2]; exact hn, k1 D1 w2 _ fun σ' ρ' hk D2 => n' hk D2 q1.b⟩
/-- a slot's own list becomes data behind a statement -/
theorem ws_fz {M : Type} {R : MR M} {K : PySem.W.Frag} {E : XK} {XP : Addr → M → Prop} {ρ : List Sl} {m : M} {nx bk ct : List Sl → M → Prop} {rt : Rk → M → Prop} {t : TS} (i : Nat) (h : WS R K E XP ρ m t (fun ρ' m' => ∃ xs, ρ'[i]? = some (.o xs) ∧ nx (ρ'.set i (.d (.list xs))) m') rt bk ct) : WS R K E XP ρ m t nx rt bk ct := by
  unfold WS at h ⊢
  intro F0 H0 B0 F H B σ D d n r b c
  refine h D d (fun {σ' ρ' m' F' H' B'} hk D' s' => ?_) r b c
  obtain ⟨xs, h1, h2⟩ := hk
  obtain ⟨B2, D2, s2, _⟩ := D'.freezeS h1
  exact n h2 D2 (s'.trans s2)
/-! # del xs[:c] -/
theorem drop_sel : ∀ (xs : List Value) (c n : Nat), (xs.zipIdx n).filterMap (fun p => if (decide ((0 : Int) ≤ (p.2 : Int)) && decide ((p.2 : Int) < (c : Int)) && ((p.2 : Int) - 0) % 1 == 0) = true then none else some p.1) = xs.drop (c - n)
  | [], c, n => by simp
  | x :: xs, c, n => by
    rw [List.zipIdx_cons, List.filterMap_cons]
    have ih := drop_sel xs c (n + 1)
    have h0 : decide ((0 : Int) ≤ (n : Int)) = true := decide_eq_true (by omega)
    have h1 : (((n : Int) - 0) % 1 == 0) = true := by simp
    by_cases h : n < c
    · have h2 : decide ((n : Int) < (c : Int)) = true := decide_eq_true (by omega)
      simp only [h0, h1, h2, Bool.and_true, if_true]
      rw [ih, show c - n = (c - (n + 1)) + 1 by omega, List.drop_succ_cons]
    · have h2 : decide ((n : Int) < (c : Int)) = false := decide_eq_false (by omega)
      simp only [h0, h1, h2, Bool.and_true, Bool.and_false, Bool.false_eq_true, if_false]
      rw [ih, show c - n = 0 by omega, show c - (n + 1) = 0 by omega, List.drop_zero, List.drop_zero]
theorem bounds_to {c n : Nat} (hc : c ≤ n) : sliceBounds none (some (c : Int)) none n = (0, (c : Int), 1) := by
  simp only [sliceBounds, Option.getD_none]
  have h2 : ¬ ((c : Int) < 0) := by omega
  simp only [h2, if_false, show (1 : Int) > 0 by decide, if_true]
  congr 1
  congr 1; omega
section
open PySem.W PyProof.Rows HT
variable {prog : Program} {w : World} {A : Around} {E : Value → Shared → Prop} {s : Shared}
set_option maxRecDepth 100000 in
theorem delItem_slice {l sl : Addr} {items : Array Value} {n : Nat} {vu : Value} {c : Nat} {Q : Unit → Shared → Prop}
    (e : s.heap.get? l = some { cls := .type "list", data := .seq items n }) (hs : s.heap.IsSliceOf sl .none vu .none) (pu : IsPart vu (some (c : Int))) (hc : c ≤ items.size) (hsz : items.size ≤ sizeLine)
    (h : Q () { s with heap := s.heap.update l (Obj.mapSeq fun xs => (xs.toList.drop c).toArray) }) : wpAny (model prog w) A (delItem (.ref l) (.ref sl)) Q E s := by
  have hl : s.heap.IsList l items := PySem.IsL.isList e
  obtain ⟨os, hos, hcs, hds⟩ := id hs
  have hTs : s.TypeIs (.ref sl) "slice" := ⟨os, hos, hcs⟩
  have hstep : ¬ ((rawPart none == rawInt 0) = true) := Bool.false_ne_true
  refine wpAny_delItem_slot hl.typeIs (by decide) F.slot_list_delitem (wpAny_call_entry F.slot_list_delitem hl.typeIs F.entry_list_delitem ?_ (F.args_list_delitem_2 _ _))
  unfold Builtin.«list.__delitem__»
  show wpAny _ A.in1 (Builtin.List.listSubscript? (.ref sl) >>= _) _ _ s
  unfold Builtin.List.listSubscript?
  refine wpAny_bind (wpAny_bind (wpAny_specialOf hTs slice_no_index ?_))
  simp only [Option.isNone_none, if_true]
  refine wpAny_pure ?_
  show wpAny _ A.in1 (typeOf (.ref sl) >>= _) _ _ s
  refine wpAny_bind (wpAny_typeOf hTs ?_)
  refine PySem.W.KFB.if_not (by decide) ?_
  rw [listSliceParts_eq]
  refine wpAny_bind (wpAny_bind (wpAny_field hos hds (x := Value.none) rfl (wpAny_bind (wpAny_listPart .none ?_))))
  rw [if_neg hstep]
  refine wpAny_bind (wpAny_field hos hds (x := Value.none) rfl (wpAny_bind (wpAny_listPart .none ?_)))
  refine wpAny_bind (wpAny_field hos hds (x := vu) rfl (wpAny_bind (wpAny_listPart pu (wpAny_pure ?_))))
  unfold Builtin.List.listItems
  refine wpAny_bind (wpAny_bind (wpAny_seqItems e rfl (wpAny_pure ?_)))
  refine wpAny_bind (wpAny_of_eq ((sliceIndices_raw none (some (c : Int)) none items.size (by simp)).trans (congrArg (pure : Int × Int × Int → Sem (Int × Int × Int)) (bounds_to hc))) ?_)
  refine wpAny_bind (wpAny_rule ?_)
  have hf : ∀ xs : Array Value, (xs.toList.zipIdx.filterMap fun p => if (decide ((0 : Int) ≤ (p.2 : Int)) && decide ((p.2 : Int) < (c : Int)) && ((p.2 : Int) - 0) % 1 == 0) = true then none else some p.1).toArray = (xs.toList.drop c).toArray := fun xs => by
    rw [drop_sel xs.toList c 0, Nat.sub_zero]
  refine wpAny_bind (listUpdate_at e rfl ?_ hsz ?_)
  · refine wpAny_bind (wpAny_letGo (wpAny_pure ⟨_, rfl, ?_⟩))
    have e2 : ∀ f : Array Value → Array Value, (∀ xs, f xs = (xs.toList.drop c).toArray) → Q () { s with heap := s.heap.update l (Obj.mapSeq f) } := fun f hff => by
      rw [show f = fun xs => (xs.toList.drop c).toArray from funext hff]
      exact h
    exact e2 _ hf
  · show Array.size _ ≤ sizeLine + 1
    refine Nat.le_trans ?_ (Nat.le_succ _)
    have := congrArg Array.size (hf items)
    refine Nat.le_trans (Nat.le_of_eq this) ?_
    simp only [List.size_toArray, List.length_drop, Array.length_toList]
    omega
end
def sDelSl (to tu : TE) : TS := fun D σ H => to σ H fun x H1 => tu σ H1 fun y H2 => ∃ (l : Addr) (xs : List V) (c : Int), x = .ref l ∧ y = .int c ∧ H2 l = some (.lst xs) ∧ 0 ≤ c ∧ c ≤ xs.length ∧ D.nx σ (upd H2 l (.lst (xs.drop c.toNat)))
section
variable {X : Cx}
theorem ps_delSl {o u : Expr} {to tu : TE} {pos tpos p2 : Pos} (ho : PE X o to) (hu : PE X u tu) : PS X (.Delete [.Subscript o (.Slice none (some u) none p2) tpos] pos) (sDelSl to tu) := by
  refine ⟨fun pins s σ H D I h => wpAny_Delete (wpAny_deleteEach_cons (wpAny_delete_Subscript (thn (ho.run pins s σ H _ I h) fun v s1 ⟨x, H1, I1, rx, q1⟩ => ?_)))⟩
  refine wpAny_Slice ?_
  rw [evalPart_none]
  refine wpAny_pure ?_
  rw [evalPart_some]
  refine thn (hu.run pins s1 σ H1 _ I1 q1) fun iv s2 ⟨y, H2, I2, ry, q2⟩ => ?_
  refine wpAny_pure ?_
  obtain ⟨l, xs, c, rfl, rfl, hH, h0, hc, q⟩ := q2
  obtain rfl : v = Value.ref l := rx
  obtain ⟨t, rfl⟩ := (show ∃ t, iv = Value.int c t from ry)
  obtain ⟨c', rfl⟩ := Int.eq_ofNat_of_zero_le h0
  have I4 : Inv X pins σ H2 { s2 with heap := s2.heap.push { cls := .type "slice", data := .fields #[Value.none, Value.int (c' : Int) t, Value.none] } } := I2.kept (t' := s2.toks) fun b ob q => Heap.get?_push_of_some _ q
  obtain ⟨z, its, n, r, hl, e⟩ := I4.lstM hH
  have hlen := hl
  refine delItem_slice (s := { s2 with heap := s2.heap.push { cls := .type "slice", data := .fields #[Value.none, Value.int (c' : Int) t, Value.none] } }) (c := c') e (Heap.IsSliceOf.new ..) (.int _ _) (by rw [List.size_toArray]; omega) (by rw [List.size_toArray]; omega) ?_
  refine wpAny_deleteEach_nil ⟨σ, upd H2 l (.lst (xs.drop c')), ?_, q⟩
  refine I4.lset (its' := its.drop c') (t' := s2.toks) hH e ?_ (r.drop _) ?_
  · rfl
  · rw [List.length_drop]; omega
end
/-! ## a method called with keywords -/
def tMethN (C : Addr) (mm : Str) (n k : Nat) (sp : Sp) (gV : List V → List V → List V) (E : XK) (ta : TE) (t tk : TA) : TE := fun σ H Q => ta σ H fun x H1 => ∃ a dx fs, x = .ref a ∧ H1 a = some (.ins C dx fs) ∧ fs.lookup mm = none ∧
  t σ H1 fun vs H2 => tk σ H2 fun zs H3 => vs.length + 1 = n ∧ zs.length = k ∧ sp (gV (x :: vs) zs) H3 Q E
section
variable {X : Cx}
theorem pe_methN {CX : CXT} {k n : Nat} {C f : Addr} {fd : FuncData} {ps ks : List Str} {mm : Str} {sp : Sp} {E : XK} {o e : Expr} {es : List Expr} {kws : List Keyword} {ta : TE} {t tk : TA} {g : List Value → List Value → List Value} {gV : List V → List V → List V} {apos pos : Pos} {pl : Sem Bool}
    (he : PE X o ta) (c : Cls X.K C) (hm : Meth X.K C mm f) (F : FnOk X.prog X.w X.K X.mg X.base CX k f fd ps sp) (hr : Room k X.A) (hb : KBn X.K fd ps n ks g gV) (hx : Passes CX X E) (ha : PA X (e :: es) t) (hkw : PK X kws tk)
    (hall : (backToKw pos (keywordEach kws X.env)).all (·.1.isSome) = true := by rfl) (hks : (backToKw pos (keywordEach kws X.env)).filterMap (·.1) = ks := by rfl)
    (hst : starEach (e :: es) X.env = (false, eval e X.env) :: starEach es X.env := by rfl) (hpl : ((backTo pos (starEach (e :: es) X.env)).any (·.1) || (backToKw pos (keywordEach kws X.env)).any (·.1.isNone)) = false := by rfl)
    (ht : eval (.Call (.Attribute o mm apos) (e :: es) kws pos) X.env = (do
      let ov ← eval o X.env
      standAt apos.atName
      let (f, first) ← holding [ov] (getMethod ov mm pl)
      callWith pos f first (backTo pos (starEach (e :: es) X.env)) (backToKw pos (keywordEach kws X.env))) := by rfl) :
    PE X (.Call (.Attribute o mm apos) (e :: es) kws pos) (tMethN C mm n ks.length sp gV E ta t tk) := by
  refine ⟨fun pins s σ H Q I h => ?_⟩
  refine PySem.W.methodCall_KW (pl := pl) (thn (he.run pins s σ H _ I h) fun u s1 ⟨x, H1, I1, rx, a, dx, fs, ex, ea, l, q⟩ => ?_) ht
  subst ex
  obtain rfl : u = Value.ref a := rx
  refine getmeth_ok I1 ea c hm l ?_
  refine PySem.W.callWith_KW (first := [.ref a]) (h₀ := X.base) I.ok.mod.kin hm.kp hall (thn (ha.run pos pins s1 σ H1 _ I1 q) fun us s2 ⟨vs, H2, I2, r, q2⟩ => ?_) hpl hst
  refine thn (hkw.run pos pins s2 σ H2 _ I2 q2) fun ws s3 ⟨zs, H3, I3, rz, l1, l2, q3⟩ => ⟨I3.kIn, ?_⟩
  rw [hks]
  exact run_fnN (us := .ref a :: us) (vs := .ref a :: vs) F hr hb hx I3 (.cons rfl r) rz (by rw [List.length_cons]; exact l1) l2 q3
end
/-! ## in the calculus -/
section
variable {M : Type} {R : MR M} {K : PySem.W.Frag} {E E' : XK} {XP : Addr → M → Prop} {ρ : List Sl} {m : M} {k : Rk → M → Prop} {tr tk : TA} {at_ : M → Addr} {pre : M → List PyData → Prop} {post : M → List PyData → Rk → M → Prop} {bad : M → List PyData → Addr → Prop}
/-- a method whose last arguments are left out -/
theorem we_methD {C : Addr} {mm : Str} {i : Nat} {dvs : List V} (hd : dvs.all isSc = true) (hc : ClsAt R at_ C mm) (hi : ρ[i]? = some (.v (.ref (at_ m))))
    (h : WA R K E XP ρ m tr fun rs m1 => ∃ ds, DLo rs = some ds ∧ at_ m1 = at_ m ∧ pre m1 (ds ++ dvs.map sc) ∧ (∀ D, ¬ bad m1 (ds ++ dvs.map sc) D) ∧ ∀ r m2, post m1 (ds ++ dvs.map sc) r m2 → k r m2) : WE R K E XP ρ m (tMeth C mm (spM R K at_ pre post bad) dvs E' (tVar i) tr) k := by
  unfold WE
  intro F0 H0 B0 F H B σ D Q q
  obtain ⟨w, h1, h2⟩ := D.s i _ hi
  cases (show w = some (.ref (at_ m)) from h2)
  obtain ⟨dx, fs, h3, h4⟩ := hc D.r
  refine ⟨_, h1, at_ m, dx, fs, rfl, h3, h4, wa_data h D _ fun vs ds m1 F1 H1 B1 ⟨ea, hp, hn, hk⟩ D1 q1 hd' => ?_⟩
  refine ⟨m1, vs ++ dvs, ds ++ dvs.map sc, F1, B1, by rw [ea], dqa_app hd' (dqa_sc hd), D1.st.s, D1.r, hp, fun v r m' F' H' B' hr st rl rel => ?_, fun C F' H' B' hb => absurd hb (hn C)⟩
  exact q v r m' F' H' B' (hk r m' hr) (D1.step st rl) (q1.trans st) (rel.base fun x hx => q1.e x hx)
/-- a method called with keywords -/
theorem we_methN {C : Addr} {mm : Str} {i n l : Nat} {gV : List V → List V → List V} (hg : ∀ x vs zs, gV (x :: vs) zs = x :: (vs ++ zs)) (hc : ClsAt R at_ C mm) (hi : ρ[i]? = some (.v (.ref (at_ m))))
    (h : WA R K E XP ρ m tr fun rs m1 => ∃ ds, DLo rs = some ds ∧ ds.length + 1 = n ∧ WA R K E XP ρ m1 tk fun qs m2 => ∃ es, DLo qs = some es ∧ es.length = l ∧ at_ m2 = at_ m ∧ pre m2 (ds ++ es) ∧ (∀ D, ¬ bad m2 (ds ++ es) D) ∧ ∀ r m3, post m2 (ds ++ es) r m3 → k r m3) : WE R K E XP ρ m (tMethN C mm n l (spM R K at_ pre post bad) gV E' (tVar i) tr tk) k := by
  unfold WE
  intro F0 H0 B0 F H B σ D Q q
  obtain ⟨w, h1, h2⟩ := D.s i _ hi
  cases (show w = some (.ref (at_ m)) from h2)
  obtain ⟨dx, fs, h3, h4⟩ := hc D.r
  refine ⟨_, h1, at_ m, dx, fs, rfl, h3, h4, wa_data h D _ fun vs ds m1 F1 H1 B1 ⟨hl, h'⟩ D1 q1 hd => ?_⟩
  refine wa_data h' D1 _ fun zs es m2 F2 H2 B2 ⟨hl2, ea, hp, hn, hk⟩ D2 q2 hz => ?_
  refine ⟨by rw [dqa_len hd]; exact hl, by rw [dqa_len hz]; exact hl2, m2, vs ++ zs, ds ++ es, F2, B2, by rw [hg, ea], dqa_app (dqa_same q2.b _ hd) hz, D2.st.s, D2.r, hp, fun v r m' F' H' B' hr st rl rel => ?_, fun C F' H' B' hb => absurd hb (hn C)⟩
  exact q v r m' F' H' B' (hk r m' hr) (D2.step st rl) ((q1.trans q2).trans st) (rel.base fun x hx => q2.e x (q1.e x hx))
end
theorem okMD {M : Type} {R : MR M} {P : Program} {w : World} {K : PySem.W.Frag} {mg : Str → Option Value} {base : Heap} {x qual : Str} {params : Arguments} {body : List Stmt} {scope : Scope} {dvs : List V} {kws : List (Str × V)} {f : Addr} {fd : FuncData} {N ps : List Str} {k : Nat} {at_ : M → Addr} {pre : M → List PyData → Prop} {post : M → List PyData → Rk → M → Prop}
    (F : FunD K x qual params body scope dvs kws f fd) (S : FnScope N ps scope) (n : Nat) (hn : N.length = ps.length + n) (len : ∀ m ds, pre m ds → ds.length + 1 = ps.length)
    (hb : ∀ (cdv : Value) (A : Around) (outer : List Env) (s : Shared) (H : Hp) (E : XK), Room k (A.deeper (envOfC qual scope s.heap.objs.size f cdv)) →
      ∃ t, PSs (cxOf CX0 P w K mg base N qual scope f cdv A outer s H E).nox body t ∧
        ∀ m ds, pre m ds → WS R K E (fun C m' => False ∧ m' = m) (.v (.ref (at_ m)) :: (ds.map Sl.d ++ List.replicate n Sl.u)) m t (fun _ m' => post m ds (.d .none) m') (fun r m' => post m ds r m') (fun _ _ => False) (fun _ _ => False)) : FnOk P w K mg base CX0 (k + 1) f fd ps (spM R K at_ pre post fun _ _ _ => False) :=
  okD F S (fun vs H Q E ⟨m, us, ds, F, B, e, hd, _, _, hp, _⟩ => by rw [e, List.length_cons, dqa_len hd, len m ds hp]) fun cdv A outer s H vs Q E hr h => by
    obtain ⟨t, h1, h2⟩ := hb cdv A outer s H E hr
    refine ⟨t, h1, run_M h n ?_ fun m ds hp => h2 m ds hp⟩
    obtain ⟨m, us, ds, F, B, rfl, hd, _, _, hp, _⟩ := h
    have := len m ds hp
    rw [List.length_cons, dqa_len hd, this, hn]
    omega
section
variable {K : PySem.W.Frag} {C P : Addr} {q : Str} {E : XK} {XP : Addr → SM → Prop} {ρ : List Sl} {m : SM} {k : Rk → SM → Prop} {tu tv : TE} {tl th : TO} {nx bk ct : List Sl → SM → Prop} {rt : Rk → SM → Prop} {i : Nat}
/-- a slice of the changes -/
theorem we_slC (hC : Cls K C) (hN : NoAttr K C "_changes") (hi : ρ[i]? = some (.v (.ref m.s))) (h : WO (stoR K C P q) K E XP ρ m tl fun lo m1 => m1 = m ∧ WO (stoR K C P q) K E XP ρ m th fun hi' m2 => m2 = m ∧ k (.o (cutD m.chs lo hi')) m) : WE (stoR K C P q) K E XP ρ m (tSl (rSlL K) (tFld K (tVar i) "_changes") tl th) k := by
  unfold WO at h
  unfold WE
  intro F0 H0 B0 F H B σ D Q qq
  obtain ⟨w, h1, h2⟩ := D.s i _ hi
  cases (show w = some (.ref m.s) from h2)
  obtain ⟨dx, h3⟩ := D.r.1
  refine ⟨_, h1, m.s, C, dx, _, _, rfl, h3, hC, hN, rfl, h D _ fun lo m1 F1 H1 B1 ⟨em, h'⟩ D1 q1 => ?_⟩
  subst em
  refine h' D1 _ fun hi' m2 F2 H2 B2 ⟨em, hk⟩ D2 q2 => ?_
  subst em
  obtain ⟨us, h4, h5⟩ := D2.r.2.2.1
  exact ⟨m2.c, us, rfl, sql h4, fun p hp => newL D2 hp (cutD_all h5 lo hi') hk fun v c m' F' H' B' k3 D3 q3 r3 => qq v c m' F' H' B' k3 D3 ((q1.trans q2).trans q3) (r3.base fun x hx => q2.e x (q1.e x hx))⟩
/-- the oldest changes are deleted -/
theorem ws_delC (hC : Cls K C) (hN : NoAttr K C "_changes") (hi : ρ[i]? = some (.v (.ref m.s))) (h : WE (stoR K C P q) K E XP ρ m tu fun r m1 => m1 = m ∧ ∃ c : Int, r = .d (.int c) ∧ 0 ≤ c ∧ c ≤ m.chs.length ∧ nx ρ { m with chs := m.chs.drop c.toNat }) : WS (stoR K C P q) K E XP ρ m (sDelSl (tFld K (tVar i) "_changes") tu) nx rt bk ct := by
  unfold WE at h
  unfold WS
  intro F0 H0 B0 F H B σ D d n r b c
  obtain ⟨w, h1, h2⟩ := d.s i _ hi
  cases (show w = some (.ref m.s) from h2)
  obtain ⟨dx, h3⟩ := d.r.1
  refine ⟨_, h1, m.s, C, dx, _, _, rfl, h3, hC, hN, rfl, h d _ fun v rr m1 F1 H1 B1 ⟨em, c, e, h0, hc, hk⟩ D1 q1 r1 => ?_⟩
  subst em e
  cases dq_int r1
  obtain ⟨us, h4, h5⟩ := D1.r.2.2.1
  have hs : F1 m1.c := D1.r.2.2.2.2.2.2.1
  have hB := (D1.r.2.2.2.2.2.2.2.2 _ hs).2
  exact ⟨m1.c, us, c, rfl, rfl, h4, h0, by rw [dqa_len h5]; exact hc, n hk (D1.step (.putF D1.st.s hs hB) (rel_chs D1.r (dqa_drop _ h5))) q1.b⟩
theorem rel_old {F : AP} {H B : Hp} {dx : Addr} {r : Int} (h : (stoR K C P q).rel m F H B) (_ : H m.s = some (.ins C dx (fSto m))) : (stoR K C P q).rel { m with old := r } F (upd H m.s (.ins C dx (fSto { m with old := r }))) B := by
  obtain ⟨⟨dx', h1⟩, ⟨kvs, t1, t2⟩, ⟨us, c1, c2⟩, h4, f1, f2, f3, f4, hd⟩ := h
  obtain ⟨ps, hP⟩ : ∃ ps, H P = some (.tbl ps) := by obtain ⟨ps, a, _⟩ := h4; exact ⟨ps, a⟩
  refine ⟨⟨dx, upd_same⟩, ⟨kvs, ?_, t2⟩, ⟨us, ?_, c2⟩, tabF_upd h4 (fun z => ?_) (fun c hc z => ?_), f1, f2, f3, f4, dom_upd hd⟩
  · show (upd H m.s _) m.t = _
    rw [upd_ne (ne_of t1 h1 (fun z => nomatch z))]; exact t1
  · show (upd H m.s _) m.c = _
    rw [upd_ne (ne_of c1 h1 (fun z => nomatch z))]; exact c1
  · rw [← z, h1] at hP; cases hP
  · rw [← z, h1] at hc; unfold LamX.CodeO at hc; cases hc
end
/-! # self.oldest = value -/
theorem psK_fld {K : PySem.W.Frag} {X : Cx} {o value : Expr} {f : Str} {pos pos' : Pos} {ta tv : TE} (h : X.K = K) (ha : PE X o ta) (hv : PE X value tv) (hs : swapsWith value (some (o.Attribute f pos')) pos.line X.env = pure false) : PS X (Stmt.Assign [o.Attribute f pos'] value pos) (sFld K ta tv f) := by subst h; exact ps_fld ha hv hs
section
variable {K : PySem.W.Frag} {C P : Addr} {q : Str} {E : XK} {XP : Addr → SM → Prop} {ρ : List Sl} {m : SM} {k : Rk → SM → Prop} {tv : TE} {nx bk ct : List Sl → SM → Prop} {rt : Rk → SM → Prop} {i : Nat}
theorem ws_oldset (hC : Cls K C) (hN : NoAttr K C "oldest") (hi : ρ[i]? = some (.v (.ref m.s))) (h : WE (stoR K C P q) K E XP ρ m tv fun r m1 => m1 = m ∧ ∃ j : Int, r = .d (.int j) ∧ nx ρ { m with old := j }) : WS (stoR K C P q) K E XP ρ m (sFld K (tVar i) tv "oldest") nx rt bk ct := by
  unfold WE at h
  unfold WS
  intro F0 H0 B0 F H B σ D d n r b c
  refine h d _ fun v rr m1 F1 H1 B1 ⟨em, j, e, hk⟩ D1 q1 r1 => ?_
  subst em e
  cases dq_int r1
  obtain ⟨w, h1, h2⟩ := D1.s i _ hi
  cases (show w = some (.ref m1.s) from h2)
  obtain ⟨dx, h3⟩ := D1.r.1
  refine ⟨_, h1, m1.s, C, dx, _, rfl, h3, hC, hN, by show 4 < 1000; decide, ?_⟩
  have hs : F1 m1.s := D1.r.2.2.2.2.1
  have hB := (D1.r.2.2.2.2.2.2.2.2 _ hs).2
  exact n hk (D1.step (.putF D1.st.s hs hB) (rel_old D1.r h3)) q1.b
end
/-! # a comprehension over a list that is lent -/
section
variable {M : Type} {R : MR M} {K : PySem.W.Frag} {E : XK} {XP : Addr → M → Prop} {ρ : List Sl} {m : M} {k : Rk → M → Prop} {ta tb tc te : TE} {tr : TA}
theorem we_lcl {tl : TE} {g : TG} {tt : TT} {vs : List Nat} (hsl : Wipes g vs) (h : WE R K E XP ρ m tl fun r m1 => ∃ xs, r = .l xs ∧ ∃ (I : Nat → List PyData → Prop), I 0 [] ∧
    (∀ i x ys, xs[i]? = some x → I i ys → WG R K E XP (wipeS ρ vs) m1 g x fun ρ1 => WT R K E XP ρ1 m1 tt fun b m2 => m2 = m1 ∧
      (b = true → WA R K E XP ρ1 m1 (tCons te tNil) fun rs m3 => m3 = m1 ∧ ∃ y, DLo rs = some [y] ∧ ys.length < 90000 ∧ I (i + 1) (ys ++ [y])) ∧ (b = false → I (i + 1) ys)) ∧
    ∀ ys, I xs.length ys → k (.o ys) m1) : WE R K E XP ρ m (tLc (iList K tl) g tt te vs) k := by with_unfolding_all exact (fun {F0 H0 B0 F H B σ} D Q q =>
  h D _ fun vv r m1 F1 H1 B1 ⟨xs, er, I, i0, step, fin⟩ D1 q1 r1 => by
    subst er
    obtain ⟨pp, ws, rfl, g1, g3, g5⟩ := r1
    refine ⟨pp, rfl, ⟨ws, sql g1⟩, fun A hA => ?_⟩
    have hn : xs.length = ws.length := dqa_len g5 |>.symm
    have hA0 : H0 A = none := Classical.byContradiction fun z => D1.st.e A z hA
    have hAn : ∀ (i : Nat) (xs : List PyData), ρ[i]? = some (.o xs) → σ[i]? ≠ some (some (.ref A)) := fun i xs h1 h2 => D1.own i xs A h1 h2 hA
    refine lc_it (walk_list (xs := ws)) (fun i G' => ∃ F' B' us ys, I i ys ∧ DS R K E XP F0 H0 B0 F' G' B' σ ρ m1 ∧ Stq F1 H1 B1 F' G' B' ∧ G' A = some (.lst us) ∧ B' A = none ∧ ¬ F' A ∧ DqAll K B' us ys)
      ⟨F1, B1, [], [], i0, D1.newO hA, .newO D1.st.s hA, upd_same, b_none D1.st.s hA, D1.nF hA, .nil⟩ (fun i G' _ ⟨F', B', _, _, _, D', q', _⟩ => sql (q'.k _ _ g1 g3)) ?_ ?_
    · rintro i x G' G2 hi ⟨F', B', us, ys, hI, D', q', eA, bA, fA, hd⟩ hy
      obtain ⟨rfl, dd, hx, hdx⟩ : G2 = G' ∧ ∃ d, xs[i]? = some d ∧ Dq K B1 x d := ⟨hy.1, by obtain ⟨d, h1, h2⟩ := dqa_atV g5 hy.2; exact ⟨d, h1, h2⟩⟩
      have Dw := D'.wipe vs
      refine hsl _ _ _ _ _ (step i dd ys hx hI Dw (dq_same q'.b _ hdx) (fun σ2 H2 => H2 = G2 → ∃ ρ2, (WT R K E XP ρ2 m1 tt fun b m2 => m2 = m1 ∧ (b = true → WA R K E XP ρ2 m1 (tCons te tNil) fun rs m3 => m3 = m1 ∧ ∃ y, DLo rs = some [y] ∧ ys.length < 90000 ∧ I (i + 1) (ys ++ [y])) ∧ (b = false → I (i + 1) ys)) ∧ DS R K E XP F0 H0 B0 F' G2 B' σ2 ρ2 m1) fun σ2 ρ2 hT D2 _ => ⟨ρ2, hT, D2⟩) fun σ2 hq2 w2 => ⟨w2.trans (wipe_idem σ vs), ?_⟩
      obtain ⟨ρ2, hT, D2⟩ := hq2 rfl
      refine hT D2 _ fun b m2 F3 H3 B3 ⟨e2, hb1, hb2⟩ D3 q3 => ?_
      subst e2
      have eA3 := q3.k _ _ eA fA
      have hAne : G2 A ≠ none := by rw [eA]; simp
      cases b with
      | false =>
        refine (if_neg Bool.false_ne_true).mpr ⟨F3, B3, us, ys, hb2 rfl, D'.step q3 D3.r, q'.trans q3, eA3, q3.f _ hAne bA, q3.n _ hAne fA, dqa_same q3.b _ hd⟩
      | true =>
        refine (if_pos rfl).mpr ?_
        have hfin := wa_data (k' := fun ds m3 => m3 = m2 ∧ ∃ y, ds = [y] ∧ ys.length < 90000 ∧ I (i + 1) (ys ++ [y])) (fun D Q q => hb1 rfl D Q fun vs rs m' F' H' B' ⟨e, y, e2, hl, hk⟩ => q vs rs m' F' H' B' ⟨_, e2, e, y, rfl, hl, hk⟩) D3 (fun vs H4 => match vs with
          | [y] => ∃ acc, H4 A = some (.lst acc) ∧ acc.length < sizeLine ∧ ∃ F' B' us ys, I (i + 1) ys ∧ DS R K E XP F0 H0 B0 F' (upd H4 A (.lst (acc ++ [y]))) B' σ ρ m2 ∧ Stq F1 H1 B1 F' (upd H4 A (.lst (acc ++ [y]))) B' ∧ (upd H4 A (.lst (acc ++ [y]))) A = some (.lst us) ∧ B' A = none ∧ ¬ F' A ∧ DqAll K B' us ys
          | _ => False) (fun ws ds m4 F4 H4 B4 ⟨e, y, e2, hl, hk⟩ D4 q4 hd4 => by
          subst e e2
          obtain ⟨z, rfl⟩ : ∃ z, ws = [z] := by
            cases hd4 with
            | cons _ h => cases h; exact ⟨_, rfl⟩
          have q34 := q3.trans q4
          have eA4 := q34.k _ _ eA fA
          have bA4 := q34.f _ hAne bA
          have fA4 := q34.n _ hAne fA
          have hus := dqa_len hd
          have q5 := q'.trans q34
          exact ⟨us, eA4, szl (by omega), F4, B4, us ++ [z], ys ++ [y], hk, (D'.step q34 D4.r).putN bA4 fA4 hA0 hAn, q5.put hA bA4, upd_same, bA4, fA4, dqa_app (dqa_same q34.b _ hd) hd4⟩)
        exact hfin
    · rintro G' ⟨F', B', us, ys, hI, D', q', eA, bA, fA, hd⟩
      rw [← hn] at hI
      exact q _ _ m1 F' G' B' (fin ys hI) D' (q1.trans q') ⟨A, us, rfl, eA, bA, fA, Classical.byContradiction fun z => q1.e A z hA, hd⟩)
theorem we_lcFl {tl : TE} {g : TG} {tt : TT} {vs : List Nat} {ρ0 : List Sl} (hsl : Wipes g vs) (e0 : wipeS ρ vs = ρ0) (h : WE R K E XP ρ m tl fun r m1 => ∃ xs, r = .l xs ∧ ∃ (f : PyData → PyData) (t : PyData → Bool), xs.length ≤ 90000 ∧
    (∀ x ∈ xs, WG R K E XP ρ0 m1 g x fun ρ1 => WT R K E XP ρ1 m1 tt fun b m2 => m2 = m1 ∧ b = t x ∧
      (b = true → WA R K E XP ρ1 m1 (tCons te tNil) fun rs m3 => m3 = m1 ∧ DLo rs = some [f x])) ∧
    k (.o ((xs.filter t).map f)) m1) : WE R K E XP ρ m (tLc (iList K tl) g tt te vs) k :=
  we_lcl hsl <| WE.mono h fun r m1 ⟨xs, er, f, t, hl, step, hk⟩ => ⟨xs, er, fun i ys => ys = ((xs.take i).filter t).map f, rfl, fun i x ys hx (hI : ys = ((xs.take i).filter t).map f) => by
    have hm := List.mem_of_getElem? hx
    have hi := (List.getElem?_eq_some_iff.mp hx).1
    have et := take_succ_app hx
    rw [e0]
    refine WG.mono (step x hm) fun ρ1 hk2 => WT.mono hk2 fun b m2 ⟨z1, z2, z3⟩ => ⟨z1, fun hb => WA.mono (z3 hb) fun rs m3 ⟨y1, y2⟩ => ⟨y1, f x, y2, ?_, ?_⟩, fun hb => ?_⟩
    · rw [hI, List.length_map]
      have := List.length_filter_le t (xs.take i)
      rw [List.length_take] at this
      omega
    · show ys ++ [f x] = ((xs.take (i + 1)).filter t).map f
      rw [et, List.filter_append, List.map_append, hI, List.filter_cons, ← z2, hb]; rfl
    · show ys = ((xs.take (i + 1)).filter t).map f
      rw [et, List.filter_append, List.map_append, hI, List.filter_cons, ← z2, hb]; simp, fun ys (hI : ys = ((xs.take xs.length).filter t).map f) => by
    have hI' : ys = ((xs.take xs.length).filter t).map f := hI
    rw [List.take_length] at hI'
    rw [hI']; exact hk⟩
end
/-! # C.m(..), m a staticmethod -/
structure SMet (K : PySem.W.Frag) (C : Addr) (mc : Value) (m : Str) (p g : Addr) : Prop where
  rd : PySem.W.readsIn K C mc = true
  ga : PySem.W.specialIn K (.ref C) "__getattribute__" = some (some (.builtin "type.__getattribute__"))
  at_ : PySem.W.findCls K (.ref C) mc m = some (.get (.builtin "staticmethod.__get__") (.ref p) .none (.ref C))
  rc : ∃ rest, PySem.W.recIn K p "staticmethod" = some (.ref g :: rest)
def tSMeth (C : Addr) (sp : Sp) (E : XK) (ta : TE) (t : TA) : TE := fun σ H Q => ta σ H fun x H1 => x = .ref C ∧ t σ H1 fun vs H2 => sp vs H2 Q E
section
variable {X : Cx} {CX : CXT} {k : Nat} {C p g : Addr} {fd : FuncData} {ps : List Str} {mc : Value} {sp : Sp} {E : XK} {o e : Expr} {es : List Expr} {m : Str} {pos apos : Pos} {ta : TE} {t : TA} {pl : Sem Bool} {pins : List (Addr × Obj)} {σ : L2.St} {H : Hp} {s : Shared} {A : Around}
theorem getsmeth_ok {b : Bool} {Q : Value → Shared → Prop} {E : Value → Shared → Prop} (I : L2.Inv X pins σ H s) (k : SMet X.K C mc m p g) (h : ∀ s', L2.Inv X pins σ H s' → Q (.ref g) s') : wpAny (model X.prog X.w) A (getAttr (.ref C) m b) Q E s := by
  obtain ⟨rest, hp⟩ := k.rc
  refine PySem.W.cls_bind I.kIn k.rd k.at_ ?_
  refine wpAny_call (PySem.W.sm_get (s := { s with toks := s.toks + 1 }) I.kIn hp ?_)
  exact PySem.W.handed_on rfl (h _ (I.tok _))
theorem getmethsm_ok {pl : Sem Bool} {Q : Value × List Value → Shared → Prop} {E : Value → Shared → Prop} (I : L2.Inv X pins σ H s) (k : SMet X.K C mc m p g) (h : ∀ s', L2.Inv X pins σ H s' → Q (.ref g, []) s') : wpAny (model X.prog X.w) A (getMethod (.ref C) m pl) Q E s :=
  PySem.W.method_cls I.kIn k.ga (getsmeth_ok I k h)
theorem pe_smeth (he : PE X o ta) (c : SMet X.K C mc m p g) (kp : PySem.W.keepIn X.K (.ref g) = true) (F : FnOk X.prog X.w X.K X.mg X.base CX k g fd ps sp) (hr : Room k X.A) (hb : Binds X.K fd ps []) (hx : Passes CX X E) (ha : PA X (e :: es) t)
    (hst : starEach (e :: es) X.env = (false, eval e X.env) :: starEach es X.env := by rfl) (hpl : (backTo pos (starEach es X.env)).any (·.1) = false := by rfl)
    (ht : eval (.Call (.Attribute o m apos) (e :: es) [] pos) X.env = (eval o X.env >>= fun ov => standAt apos.atName >>= fun _ => holding [ov] (getMethod ov m pl) >>= fun fm =>
      callWith pos fm.1 fm.2 (backTo pos (starEach (e :: es) X.env)) (backToKw pos (keywordEach [] X.env))) := by rfl) :
    PE X (.Call (.Attribute o m apos) (e :: es) [] pos) (tSMeth C sp E ta t) :=
  ⟨fun pins s σ H Q I h => PySem.W.methodCall_KW (pl := pl) (thn (he.run pins s σ H _ I h) fun u s1 ⟨x, H1, I1, rx, ex, q⟩ => by
    subst ex
    obtain rfl : u = Value.ref C := rx
    refine getmethsm_ok I1 c fun s2 I2 => ?_
    refine PySem.W.callWith_K (first := []) (h₀ := X.base) I.ok.mod.kin kp (thn (ha.run pos pins s2 σ H1 _ I2 q) fun us s3 ⟨vs, H2, I3, r, q2⟩ => ⟨I3.kIn, ?_⟩) hst hpl
    exact run_fn F hr hb .nil hx I3 r (by rw [List.append_nil]; exact q2)) ht⟩
end
/-! # a field among the targets -/
theorem assign_attr {M : Model} {A : Around} {env : Env} {E : Value → Shared → Prop} {s : Shared} {o : Expr} {attr : Str} {pos : Pos} {v : Value} {Q : Unit → Shared → Prop}
    (h : wpAny M A (eval o env) (fun ov s₂ => wpAny M A (setAttr ov attr v) (fun _ => Q ()) E s₂) E s) : wpAny M A (assign (.Attribute o attr pos) env v) Q E s := fun Γ p hΓ => by
  simp only [PySem.assign_Attribute, Sem.wp_bind', Sem.wp_holding, Sem.wp_cmd_standAt, Sem.wp_release, Sem.wp_pure']
  exact Sem.wp_mono M Γ _ (fun ov _ s₂ h₂ => h₂ Γ _ hΓ) (fun _ _ _ h' => h') _ _ (h Γ _ hΓ)
def gFld (K : PySem.W.Frag) (ta : TE) (f : Str) : TG := fun y σ H Q => ta σ H fun x H2 => ∃ a C dx fs, x = .ref a ∧ H2 a = some (.ins C dx fs) ∧ Cls K C ∧ NoAttr K C f ∧ fs.length < 1000 ∧ Q σ (upd H2 a (.ins C dx (putF f y fs)))
theorem pg_fld {K : PySem.W.Frag} {X : Cx} {o : Expr} {f : Str} {pos : Pos} {ta : TE} (hK : X.K = K) (ha : PE X o ta) : PG X (.Attribute o f pos) (gFld K ta f) := by
  subst hK
  refine ⟨fun pins s σ H v u Q I rv h => ?_⟩
  refine assign_attr (thn (ha.run pins s σ H _ I h) fun ov s2 ⟨x, H2, I2, rx, a, C, dx, fs, ex, ea, c, n, l, q2⟩ => ?_)
  subst ex
  obtain rfl : ov = Value.ref a := rx
  exact setattr_ok I2 ea c n l rv fun s3 I3 => ⟨σ, _, I3, q2⟩
/-! # two stores: the second beside the first, which holds the table of code -/
def ownR (K : PySem.W.Frag) (C : Addr) : MR SM where
  rel := fun m F H B => (∃ dx, H m.s = some (.ins C dx (fSto m))) ∧ (∃ kvs, H m.t = some (.dT kvs) ∧ TRel K B kvs m.tab) ∧ (∃ us, H m.c = some (.lst us) ∧ DqAll K B us m.chs) ∧ (∀ x, F x ↔ x = m.s ∨ x = m.t ∨ x = m.c) ∧ ∀ x, F x → H x ≠ none ∧ B x = none
  frame := fun {m F H B H' B'} ⟨h1, h2, h3, ho, hd⟩ e s n => by
    have f1 := (ho m.s).mpr (.inl rfl)
    have f2 := (ho m.t).mpr (.inr (.inl rfl))
    have f3 := (ho m.c).mpr (.inr (.inr rfl))
    refine ⟨by rw [e _ f1]; exact h1, ?_, ?_, ho, fun x hx => ⟨by rw [e x hx]; exact (hd x hx).1, n x hx⟩⟩
    · obtain ⟨kvs, a, b⟩ := h2
      exact ⟨kvs, by rw [e _ f2]; exact a, b.same s⟩
    · obtain ⟨us, a, b⟩ := h3
      exact ⟨us, by rw [e _ f3]; exact a, dqa_same s _ b⟩
  dom := fun ⟨_, _, _, _, hd⟩ hx => hd _ hx
section
variable {K : PySem.W.Frag} {C P : Addr} {q : Str}
theorem own_swap {m1 m2 : SM} {F : AP} {H B : Hp} (h : (prM (stoR K C P q) (ownR K C)).rel (m1, m2) F H B) : (prM (stoR K C P q) (ownR K C)).rel (m2, m1) F H B := by
  obtain ⟨F1, F2, hF, hd, ⟨i1, t1, c1, hT, f1, f2, f3, f4, d1⟩, ⟨i2, t2, c2, o2, d2⟩⟩ := h
  have i1 : ∃ dx, H m1.s = some (.ins C dx (fSto m1)) := i1
  have t1 : ∃ kvs, H m1.t = some (.dT kvs) ∧ TRel K B kvs m1.tab := t1
  have c1 : ∃ us, H m1.c = some (.lst us) ∧ DqAll K B us m1.chs := c1
  have f1 : F1 m1.s := f1
  have f2 : F1 m1.t := f2
  have f3 : F1 m1.c := f3
  have far : ∀ (x : Addr) (o : HO), H x = some o → (∀ dx, o ≠ .ins C dx (fSto m1)) → (∀ kvs, o ≠ .dT kvs) → (∀ us, o ≠ .lst us) → x ≠ m1.s ∧ x ≠ m1.t ∧ x ≠ m1.c := fun x o hx n1 n2 n3 => by
    obtain ⟨dx, e1⟩ := i1
    obtain ⟨kvs, e2, _⟩ := t1
    obtain ⟨us, e3, _⟩ := c1
    refine ⟨fun z => ?_, fun z => ?_, fun z => ?_⟩
    · rw [z, e1] at hx; exact n1 dx (Option.some.inj hx).symm
    · rw [z, e2] at hx; exact n2 kvs (Option.some.inj hx).symm
    · rw [z, e3] at hx; exact n3 us (Option.some.inj hx).symm
  obtain ⟨ps, hP, a2, a3⟩ := hT
  refine ⟨fun x => F2 x ∨ (F1 x ∧ x ≠ m1.s ∧ x ≠ m1.t ∧ x ≠ m1.c), fun x => x = m1.s ∨ x = m1.t ∨ x = m1.c, fun x => ?_, fun x hx => ?_, ⟨i2, t2, c2, ⟨ps, hP, a2, fun pos cv hc => ?_⟩, .inl ((o2 _).mpr (.inl rfl)), .inl ((o2 _).mpr (.inr (.inl rfl))), .inl ((o2 _).mpr (.inr (.inr rfl))), .inr ⟨f4, far P _ hP (fun _ z => by cases z) (fun _ z => by cases z) (fun _ z => by cases z)⟩, fun x hx => ?_⟩, ⟨i1, t1, c1, fun _ => Iff.rfl, fun x hx => ?_⟩⟩
  · rw [hF]
    constructor
    · rintro (h | h)
      · by_cases e1 : x = m1.s
        · exact .inr (.inl e1)
        · by_cases e2 : x = m1.t
          · exact .inr (.inr (.inl e2))
          · by_cases e3 : x = m1.c
            · exact .inr (.inr (.inr e3))
            · exact .inl (.inr ⟨h, e1, e2, e3⟩)
      · exact .inl (.inl h)
    · rintro ((h | h) | h)
      · exact .inr h
      · exact .inl h.1
      · rcases h with rfl | rfl | rfl
        · exact .inl f1
        · exact .inl f2
        · exact .inl f3
  · rcases hx with h | h
    · rintro (rfl | rfl | rfl)
      · exact hd _ f1 h
      · exact hd _ f2 h
      · exact hd _ f3 h
    · rintro (e | e | e)
      · exact h.2.1 e
      · exact h.2.2.1 e
      · exact h.2.2.2 e
  · obtain ⟨c, u1, u2, u3⟩ := a3 pos cv hc
    exact ⟨c, u1, u2, .inr ⟨u3, far c _ u2 (fun _ z => by unfold LamX.CodeO at z; cases z) (fun _ z => by unfold LamX.CodeO at z; cases z) (fun _ z => by unfold LamX.CodeO at z; cases z)⟩⟩
  · rcases hx with h | h
    · exact d2 x h
    · exact d1 x h.1
  · rcases hx with rfl | rfl | rfl
    · exact d1 _ f1
    · exact d1 _ f2
    · exact d1 _ f3
/-- the first store of two, and the second -/
theorem Part.sto1 : Part (prM (stoR K C P q) (ownR K C)) (stoR K C P q) (fun m => m.1) (fun m a => (a, m.2)) := Part.left
theorem Part.sto2 : Part (prM (stoR K C P q) (ownR K C)) (stoR K C P q) (fun m => m.2) (fun m a => (m.1, a)) := ⟨fun {m F H B} r => by
  obtain ⟨m1, m2⟩ := m
  obtain ⟨F1, h1, h2, h3⟩ := (Part.left (R1 := stoR K C P q) (R2 := ownR K C)).on (own_swap r)
  refine ⟨F1, h1, h2, fun m2' F1' H' B' st r' => ?_⟩
  obtain ⟨F', g1, g2, g3⟩ := h3 m2' F1' H' B' st r'
  exact ⟨F', own_swap g1, g2, g3⟩⟩
end
/-! # a store without the table of code: what its making needs -/
section
variable {K : PySem.W.Frag} {C : Addr} {E : XK} {XP : Addr → SM → Prop} {ρ : List Sl} {m : SM} {k : Rk → SM → Prop} {te td ty tv : TE} {nx bk ct : List Sl → SM → Prop} {rt : Rk → SM → Prop} {i : Nat} {F : AP} {H B : Hp}
theorem own_mem (h : (ownR K C).rel m F H B) : F m.s ∧ F m.t ∧ F m.c := ⟨(h.2.2.2.1 _).mpr (.inl rfl), (h.2.2.2.1 _).mpr (.inr (.inl rfl)), (h.2.2.2.1 _).mpr (.inr (.inr rfl))⟩
theorem we_fldIO {f : Str} {j : Int} (hC : Cls K C) (hN : NoAttr K C f) (hi : ρ[i]? = some (.v (.ref m.s))) (hl : (fSto m).lookup f = some (.int j)) (hk : k (.d (.int j)) m) : WE (ownR K C) K E XP ρ m (tFld K (tVar i) f) k := by
  unfold WE
  intro F0 H0 B0 F H B σ D Q qq
  obtain ⟨w, h1, h2⟩ := D.s i _ hi
  cases (show w = some (.ref m.s) from h2)
  obtain ⟨dx, h3⟩ := D.r.1
  exact ⟨_, h1, m.s, C, dx, _, _, rfl, h3, hC, hN, hl, qq _ _ m _ _ _ hk D (.refl D.st.s) (.int j)⟩
theorem we_fldVO {f : Str} {v : V} (hC : Cls K C) (hN : NoAttr K C f) (hi : ρ[i]? = some (.v (.ref m.s))) (hl : (fSto m).lookup f = some v) (hk : k (.v v) m) : WE (ownR K C) K E XP ρ m (tFld K (tVar i) f) k := by
  unfold WE
  intro F0 H0 B0 F H B σ D Q qq
  obtain ⟨w, h1, h2⟩ := D.s i _ hi
  cases (show w = some (.ref m.s) from h2)
  obtain ⟨dx, h3⟩ := D.r.1
  exact ⟨_, h1, m.s, C, dx, _, _, rfl, h3, hC, hN, hl, qq _ (.v v) m _ _ _ hk D (.refl D.st.s) rfl⟩
theorem own_rel {m' : SM} (es : m'.s = m.s) (et : m'.t = m.t) (ec : m'.c = m.c) (e1 : m'.tab = m.tab) (e2 : m'.chs = m.chs) (h : (ownR K C).rel m F H B) : ∃ dx, H m.s = some (.ins C dx (fSto m)) ∧ (ownR K C).rel m' F (upd H m.s (.ins C dx (fSto m'))) B := by
  obtain ⟨⟨dx, h1⟩, ⟨kvs, t1, t2⟩, ⟨us, c1, c2⟩, ho, hd⟩ := h
  refine ⟨dx, h1, ⟨dx, by rw [es]; exact upd_same⟩, ⟨kvs, ?_, by rw [e1]; exact t2⟩, ⟨us, ?_, by rw [e2]; exact c2⟩, fun x => by rw [es, et, ec]; exact ho x, dom_upd hd⟩
  · rw [et, upd_ne (ne_of t1 h1 (fun z => nomatch z))]; exact t1
  · rw [ec, upd_ne (ne_of c1 h1 (fun z => nomatch z))]; exact c1
theorem own_tab {kvs : List (List Key × V)} {tab : Tab} (h : (ownR K C).rel m F H B) (ht : TRel K B kvs tab) : (ownR K C).rel { m with tab := tab } F (upd H m.t (.dT kvs)) B := by
  obtain ⟨⟨dx, h1⟩, ⟨kvs', t1, _⟩, ⟨us, c1, c2⟩, ho, hd⟩ := h
  refine ⟨⟨dx, ?_⟩, ⟨kvs, upd_same, ht⟩, ⟨us, ?_, c2⟩, ho, dom_upd hd⟩
  · show (upd H m.t _) m.s = _
    rw [upd_ne (ne_of h1 t1 (fun z => nomatch z))]; exact h1
  · show (upd H m.t _) m.c = _
    rw [upd_ne (ne_of c1 t1 (fun z => nomatch z))]; exact c1
/-- self.oldest = value -/
theorem ws_oldsetO (hC : Cls K C) (hN : NoAttr K C "oldest") (hi : ρ[i]? = some (.v (.ref m.s))) (h : WE (ownR K C) K E XP ρ m tv fun r m1 => m1 = m ∧ ∃ j : Int, r = .d (.int j) ∧ nx ρ { m with old := j }) : WS (ownR K C) K E XP ρ m (sFld K (tVar i) tv "oldest") nx rt bk ct := by
  unfold WE at h
  unfold WS
  intro F0 H0 B0 F H B σ D d n r b c
  refine h d _ fun v rr m1 F1 H1 B1 ⟨em, j, e, hk⟩ D1 q1 r1 => ?_
  subst em e
  cases dq_int r1
  obtain ⟨w, h1, h2⟩ := D1.s i _ hi
  cases (show w = some (.ref m1.s) from h2)
  obtain ⟨dx, h3, h4⟩ := own_rel (m := m1) (m' := { m1 with old := j }) rfl rfl rfl rfl rfl D1.r
  refine ⟨_, h1, m1.s, C, dx, _, rfl, h3, hC, hN, by show 4 < 1000; decide, ?_⟩
  have hs := (own_mem D1.r).1
  have hB := (D1.r.2.2.2.2 _ hs).2
  exact n hk (D1.step (.putF D1.st.s hs hB) h4) q1.b
/-- self.revision as a target -/
theorem wg_revO {j : Int} {kk : List Sl → SM → Prop} (hC : Cls K C) (hN : NoAttr K C "revision") (hi : ρ[i]? = some (.v (.ref m.s))) (hk : nx ρ { m with rev := j }) {F0 F : AP} {H0 B0 H B : Hp} {σ : L2.St} {Q : L2.St → Hp → Prop} (D : DS (ownR K C) K E XP F0 H0 B0 F H B σ ρ m)
    (q : ∀ {F' : AP} {H' B' : Hp}, DS (ownR K C) K E XP F0 H0 B0 F' H' B' σ ρ { m with rev := j } → Stq F H B F' H' B' → Q σ H') : gFld K (tVar i) "revision" (.int j) σ H Q := by
  obtain ⟨w, h1, h2⟩ := D.s i _ hi
  cases (show w = some (.ref m.s) from h2)
  obtain ⟨dx, h3, h4⟩ := own_rel (m := m) (m' := { m with rev := j }) rfl rfl rfl rfl rfl D.r
  refine ⟨_, h1, m.s, C, dx, _, rfl, h3, hC, hN, by show 4 < 1000; decide, ?_⟩
  have hs := (own_mem D.r).1
  have hB := (D.r.2.2.2.2 _ hs).2
  exact q (D.step (.putF D.st.s hs hB) h4) (.putF D.st.s hs hB)
theorem ws_dputO (h : WE (ownR K C) K E XP ρ m tv fun r m1 => ∃ d, r = .d d ∧ WE (ownR K C) K E XP ρ m1 td fun a m2 => a = .v (.ref m2.t) ∧ WE (ownR K C) K E XP ρ m2 ty fun b m3 => m3.t = m2.t ∧ ∃ x y, b = .d (.tuple [.str x, .str y]) ∧ m3.tab.length < 90000 ∧ nx ρ { m3 with tab := putD m3.tab [.inr x, .inr y] d }) :
    WS (ownR K C) K E XP ρ m (sDPut td ty tv) nx rt bk ct := by
  unfold WE at h
  unfold WS
  intro F0 H0 B0 F H B σ D d n r b c
  refine h d _ fun v rv m1 F1 H1 B1 ⟨dd, e1, k1⟩ D1 q1 r1 => ?_
  subst e1
  refine k1 D1 _ fun w ra m2 F2 H2 B2 ⟨e2, k2⟩ D2 q2 r2 => ?_
  subst e2
  cases (show w = .ref m2.t from r2)
  refine k2 D2 _ fun u rb m3 F3 H3 B3 ⟨et, x, y, e3, hl, k3⟩ D3 q3 r3 => ?_
  subst e3
  obtain ⟨p, rfl, hp⟩ := key_at D3.st.s r3
  obtain ⟨kvs, h1, h2⟩ := D3.r.2.1
  have hv : Dq K B3 v dd := dq_same q3.b _ (dq_same q2.b _ r1)
  rw [← et]
  refine ⟨m3.t, _, rfl, DPut.t h1 hp (szl (by rw [h2.length]; omega)), ?_⟩
  have hs := (own_mem D3.r).2.1
  have hB := (D3.r.2.2.2.2 _ hs).2
  exact n k3 (D3.step (.putF D3.st.s hs hB) (own_tab D3.r (h2.put _ hv))) (q1.b.trans (q2.b.trans q3.b))
end
/-! # a part of the state that holds lists -/
section
variable {M1 M2 : Type} {R1 : MR M1} {R2 : MR M2} {K : PySem.W.Frag} {E : XK} {XP : Addr → M1 → Prop} {ρ : List Sl} {m : M1} {m2 : M2} {F0 F : AP} {H0 B0 H B : Hp} {σ : L2.St}
theorem ws_partL {u : TS} {nx bk ct : List Sl → M1 → Prop} {rt : Rk → M1 → Prop} (body : WS (prM R1 R2) K E (fun C x => XP C x.1) ρ (m, m2) u (fun ρ' x => nx ρ' x.1) (fun r x => rt r x.1) (fun ρ' x => bk ρ' x.1) (fun ρ' x => ct ρ' x.1))
    (Ds : Ends) {F2 : AP} (D : DS R1 K E XP F0 H0 B0 F H B σ ρ m) (r2 : R2.rel m2 F2 H B) (h0 : ∀ x, F2 x → H0 x = none) (hF : ∀ x, F2 x → ¬ F x) (hL : ∀ (i : Nat) (p : Addr) (xs : List PyData), ρ[i]? = some (.o xs) ∨ ρ[i]? = some (.l xs) → σ[i]? = some (some (.ref p)) → ¬ F2 p)
    (n : ∀ {σ' ρ' m' F' H' B'}, nx ρ' m' → DS R1 K E XP F0 H0 B0 F' H' B' σ' ρ' m' → Same B B' → Ds.nx σ' H')
    (rr : ∀ {v r m' F' H' B'}, rt r m' → Stq F0 H0 B0 F' H' B' → R1.rel m' F' H' B' → RelR K H0 F' H' B' v r → Ds.rt v H')
    (bb : ∀ {σ' ρ' m' F' H' B'}, bk ρ' m' → DS R1 K E XP F0 H0 B0 F' H' B' σ' ρ' m' → Same B B' → Ds.bk σ' H')
    (cc : ∀ {σ' ρ' m' F' H' B'}, ct ρ' m' → DS R1 K E XP F0 H0 B0 F' H' B' σ' ρ' m' → Same B B' → Ds.ct σ' H') : u Ds σ H := by
  have DD : DS (prM R1 R2) K E (fun C x => XP C x.1) F0 H0 B0 (fun x => F x ∨ F2 x) H B σ ρ (m, m2) := by
    refine ⟨D.l, ⟨D.st.b, D.st.s, D.st.f, D.st.k, fun x hx hn z => z.elim (D.st.n x hx hn) fun z => hx (h0 x z), D.st.e⟩, ⟨F, F2, fun _ => Iff.rfl, fun x a b => hF x b a, D.r, r2⟩, fun i t ht => ?_, D.oo, fun C x F' H' B' hx st rl => ?_⟩
    · obtain ⟨w, h1, h2⟩ := D.s i t ht
      refine ⟨w, h1, ?_⟩
      cases t with
      | u => exact True.intro
      | d x => exact h2
      | o xs => obtain ⟨p, vs, rfl, g1, g2, g3, g4, g5⟩ := h2; exact ⟨p, vs, rfl, g1, g2, fun z => z.elim g3 (hL i p xs (.inl ht) h1), g4, g5⟩
      | v x => exact h2
      | l xs => obtain ⟨p, vs, rfl, g1, g3, g4, g5⟩ := h2; exact ⟨p, vs, rfl, g1, fun z => z.elim g3 (hL i p xs (.inr ht) h1), g4, g5⟩
    · obtain ⟨F1, F2', h, d, r1, _⟩ := rl
      exact D.x C x.1 F1 H' B' hx ⟨st.b, st.s, st.f, st.k, fun y hy hn z => st.n y hy hn ((h y).mpr (.inl z)), st.e⟩ r1
  unfold WS at body
  refine body Ds DD (fun {σ' ρ' m' F' H' B'} hk D' s' => ?_) (fun {v r m' F' H' B'} hk st rl rel => ?_) (fun {σ' ρ' m' F' H' B'} hk D' s' => ?_) (fun {σ' ρ' m' F' H' B'} hk D' s' => ?_)
  · obtain ⟨F1, D1⟩ := D'.fst (XP := XP) D.x
    exact n hk D1 s'
  · obtain ⟨F1, F2', h, d, r1, _⟩ := rl
    have sub : ∀ x, F1 x → F' x := fun x z => (h x).mpr (.inl z)
    exact rr hk ⟨st.b, st.s, st.f, st.k, fun y hy hn z => st.n y hy hn (sub y z), st.e⟩ r1 (rel_fst sub rel)
  · obtain ⟨F1, D1⟩ := D'.fst (XP := XP) D.x
    exact bb hk D1 s'
  · obtain ⟨F1, D1⟩ := D'.fst (XP := XP) D.x
    exact cc hk D1 s'
end
/-- rows of an image -/
def RowsOk (rows : List PyData) : Prop := ∀ r ∈ rows, ∃ k n b v c, r = .tuple [.str k, .str n, .int b, .int v, c]
def rowPut (t : Tab) : PyData → Tab
  | .tuple [.str k, .str n, b, v, c] => putD t [.inr k, .inr n] (.tuple [b, v, c])
  | _ => t
def tabOf (rows : List PyData) : Tab := rows.foldl rowPut []
def sp_img (K : PySem.W.Frag) (C : Addr) : Sp := fun vs H Q _ => ∃ (v : V) (rev : Int) (rows : List PyData) (B : Hp), vs = [v] ∧ Dq K B v (.tuple [.int rev, .tuple rows]) ∧ Same B H ∧ rows.length ≤ 40000 ∧ RowsOk rows ∧
  ∀ (m' : SM) (F2 : AP) (H' B' : Hp), (ownR K C).rel m' F2 H' B' → m'.rev = rev → m'.old = rev → m'.chs = [] → m'.tab = tabOf rows → Same H H' → Same B B' → Same B' H' → (∀ x, H x ≠ none → B x = none → B' x = none) → (∀ x, F2 x → H x = none) → Q (.ref m'.s) H'
section
variable {M : Type} {R : MR M} {K : PySem.W.Frag} {E E' : XK} {XP : Addr → M → Prop} {ρ : List Sl} {m : M} {tr : TA}
theorem ws_newS {C : Addr} {u : TS} {i : Nat} {nx bk ct : List Sl → M → Prop} {rt : Rk → M → Prop} (h : WA R K E XP ρ m tr fun rs m1 => ∃ (rev : Int) (rows : List PyData), rs = [.d (.tuple [.int rev, .tuple rows])] ∧ rows.length ≤ 40000 ∧ RowsOk rows ∧
    ∀ m' : SM, m'.rev = rev → m'.old = rev → m'.chs = [] → m'.tab = tabOf rows → WS (prM R (ownR K C)) K E (fun C x => XP C x.1) (ρ.set i (.v (.ref m'.s))) (m1, m') u (fun ρ' x => nx ρ' x.1) (fun r x => rt r x.1) (fun ρ' x => bk ρ' x.1) (fun ρ' x => ct ρ' x.1)) :
    WS R K E XP ρ m (tSeq (tAsg (tSMeth C (sp_img K C) E' (tC (.ref C)) tr) (gName i)) u) nx rt bk ct := by
  unfold WA at h
  unfold WS
  intro F0 H0 B0 F H B σ Ds D n r b c
  refine ⟨rfl, h D _ fun vs rs m1 F1 H1 B1 ⟨rev, rows, e, hl, hR, body⟩ D1 q1 r1 => ?_⟩
  subst e
  obtain ⟨v, rfl, hv⟩ : ∃ v, vs = [v] ∧ Dq K B1 v (.tuple [.int rev, .tuple rows]) := by
    match vs, r1 with
    | [v], ⟨h1, _⟩ => exact ⟨v, rfl, h1⟩
  refine ⟨v, rev, rows, B1, rfl, hv, D1.st.s, hl, hR, fun m' F2 H' B' rel e1 e2 e3 e4 sH sB sBH fr f0 => ?_⟩
  have D2 := D1.pure sH sB sBH fr
  have D3 : DS R K E XP F0 H0 B0 F1 H' B' (σ.set i (some (.ref m'.s))) (ρ.set i (.v (.ref m'.s))) m1 := D2.setW i rfl fun _ _ z => by cases z
  have hlive : ∀ (p : Addr), H1 p ≠ none → ¬ F2 p := fun p hp z => hp (f0 p z)
  refine ws_partL (R2 := ownR K C) (m2 := m') (body m' e1 e2 e3 e4) Ds D3 (F2 := F2) rel (fun x hx => Classical.byContradiction fun z => D1.st.e x z (f0 x hx)) (fun x hx hF => (R.dom D1.r hF).1 (f0 x hx)) (fun j p xs hj hp => ?_) (fun hk' D' s' => n hk' D' ((q1.b.trans sB).trans s')) r (fun hk' D' s' => b hk' D' ((q1.b.trans sB).trans s')) (fun hk' D' s' => c hk' D' ((q1.b.trans sB).trans s'))
  by_cases hji : j = i
  · subst hji
    exfalso
    rcases hj with hj | hj <;> (rw [List.getElem?_set_self'] at hj; cases hq : ρ[j]? <;> rw [hq] at hj <;> cases hj)
  · rw [List.getElem?_set_ne (Ne.symm hji)] at hj hp
    rcases hj with hj | hj
    · obtain ⟨w, w1, pp, vs2, rfl, g1, _⟩ := D1.s j _ hj
      rw [hp] at w1
      cases w1
      exact hlive p (by rw [g1]; simp)
    · obtain ⟨w, w1, pp, vs2, rfl, g1, _⟩ := D1.s j _ hj
      rw [hp] at w1
      cases w1
      exact hlive p (by rw [g1]; simp)
end
/-! # from an image -/
section
variable {K : PySem.W.Frag} {C : Addr} {E : XK} {XP : Addr → SM → Prop} {ρ : List Sl} {m : SM} {nx bk ct : List Sl → SM → Prop} {rt : Rk → SM → Prop} {i j a : Nat}
theorem ws_imgO {rev : Int} {d : PyData} (hC : Cls K C) (hN : NoAttr K C "revision") (hi : ρ[i]? = some (.v (.ref m.s))) (ha : ρ[a]? = some (.d (.tuple [.int rev, d]))) (hk : nx (ρ.set j (.d d)) { m with rev := rev }) :
    WS (ownR K C) K E XP ρ m (tAsg (tVar a) (gTup K 2 (gCons (gFld K (tVar i) "revision") (gCons (gName j) gNil)))) nx rt bk ct := by
  unfold WS
  intro F0 H0 B0 F H B σ D d' n r b c
  obtain ⟨w, h1, v, rfl, h2⟩ := d'.s a _ ha
  obtain ⟨p, vs, rfl, g1, g2⟩ := dq_tup h2
  obtain ⟨v1, v2, rfl, k1, k2⟩ : ∃ v1 v2, vs = [v1, v2] ∧ Dq K B v1 (.int rev) ∧ Dq K B v2 d := by
    cases g2 with
    | cons x1 y1 => cases y1 with
      | cons x2 y2 => cases y2; exact ⟨_, _, rfl, x1, x2⟩
  cases dq_int k1
  refine ⟨_, h1, p, _, rfl, sqt_same d'.st.s g1, rfl, _, _, rfl, ?_⟩
  refine wg_revO (nx := fun _ _ => True) (kk := fun _ _ => True) hC hN hi True.intro d' fun {F' H' B'} D1 st => ?_
  refine ⟨_, _, rfl, ?_⟩
  dsimp only [L2.gName, L2.gNil]
  refine ⟨rfl, ?_⟩
  have hv2 : Dq K B' v2 d := dq_same st.b _ k2
  exact n hk (D1.setW j ⟨v2, rfl, hv2⟩ fun _ _ z => by cases z) st.b
end
theorem enterD {M : Type} {R : MR M} {K : PySem.W.Frag} {E : XK} {m : M} {F : AP} {H B : Hp} {σ : L2.St} {ρ : List Sl} {ts : TS} {D : Ends} {rt : Rk → M → Prop} (hR : R.rel m F H B) (hB : Same B H) (hl : σ.length = ρ.length)
    (hs : ∀ (i : Nat) (t : Sl), ρ[i]? = some t → ∃ w, σ[i]? = some w ∧ (t = .u ∨ (∃ x, t = .v x ∧ w = some x) ∨ ∃ d v, t = .d d ∧ w = some v ∧ Dq K B v d))
    (fin : ∀ v r m' F' H' B', rt r m' → Stq F H B F' H' B' → R.rel m' F' H' B' → RelR K H F' H' B' v r → D.rt v H')
    (body : WS R K E (fun _ _ => False) ρ m ts (fun _ _ => False) rt (fun _ _ => False) (fun _ _ => False)) : ts D σ H := by
  have nu : ∀ (i : Nat) (xs : List PyData), ρ[i]? ≠ some (.o xs) := fun i xs e => by
    obtain ⟨w, _, z | ⟨x, z, _⟩ | ⟨d, v, z, _⟩⟩ := hs i _ e <;> cases z
  have D0 : DS R K E (fun _ _ => False) F H B F H B σ ρ m := by
    refine ⟨hl, .refl hB, hR, fun i t ht => ?_, fun i j p xs ys h1 => absurd h1 (nu i xs), fun _ _ _ _ _ z => z.elim⟩
    obtain ⟨w, h1, rfl | ⟨x, rfl, rfl⟩ | ⟨d, v, rfl, rfl, hd⟩⟩ := hs i t ht
    · exact ⟨w, h1, True.intro⟩
    · exact ⟨_, h1, rfl⟩
    · exact ⟨_, h1, _, rfl, hd⟩
  unfold WS at body
  exact body _ D0 (fun z => z.elim) (fun {v r m' F' H' B'} hk st hF rel => fin v r m' F' H' B' hk st hF rel) (fun z => z.elim) (fun z => z.elim)
/-! # left-out defaults, in a part -/
section
variable {M M1 : Type} {R : MR M} {R1 : MR M1} {get : M → M1} {set : M → M1 → M} {K : PySem.W.Frag} {E : XK} {XP : Addr → M → Prop} {ρ : List Sl} {m : M} {k : Rk → M → Prop} {te : TE} {tr : TA} {at_ : M1 → Addr} {pre : M1 → List PyData → Prop} {post : M1 → List PyData → Rk → M1 → Prop} {bad : M1 → List PyData → Addr → Prop}
theorem we_methDP {dvs : List V} (hdv : dvs.all isSc = true) (L : Part R R1 get set) {C : Addr} {mm : Str} {E' : XK} {i : Nat} (hc : ClsAt R1 at_ C mm) (hi : ρ[i]? = some (.v (.ref (at_ (get m)))))
    (h : WA R K E XP ρ m tr fun rs m1 => ∃ ds, DLo rs = some ds ∧ at_ (get m1) = at_ (get m) ∧ pre (get m1) (ds ++ dvs.map sc) ∧ (∀ D, ¬ bad (get m1) (ds ++ dvs.map sc) D) ∧ ∀ r m2, post (get m1) (ds ++ dvs.map sc) r m2 → notL r ∧ k r (set m1 m2)) : WE R K E XP ρ m (tMeth C mm (spM R1 K at_ pre post bad) dvs E' (tVar i) tr) k := by
  unfold WE
  intro F0 H0 B0 F H B σ D Q q
  obtain ⟨w, h1, h2⟩ := D.s i _ hi
  cases (show w = some (.ref (at_ (get m))) from h2)
  obtain ⟨F1, r1, _, _⟩ := L.on D.r
  obtain ⟨dx, fs, h3, h4⟩ := hc r1
  refine ⟨_, h1, at_ (get m), dx, fs, rfl, h3, h4, wa_data h D _ fun vs ds m1 F1 H1 B1 ⟨ea, hp, hn, hk⟩ D1 q1 hd => ?_⟩
  obtain ⟨F2, r2, i2, c2⟩ := L.on D1.r
  refine ⟨get m1, vs ++ dvs, ds ++ dvs.map sc, F2, B1, by rw [ea], dqa_app hd (dqa_sc hdv), D1.st.s, r2, hp, fun v r m' F' H' B' hr st rl rel => ?_, fun C F' H' B' hb => absurd hb (hn C)⟩
  obtain ⟨F3, r3, st3, n3⟩ := c2 m' F' H' B' st rl
  obtain ⟨nl, hkr⟩ := hk r m' hr
  exact q v r _ F3 H' B' hkr (D1.step st3 r3) (q1.trans st3) ((rel_part n3 rel nl).base fun x hx => q1.e x hx)
end
/-! # sessions: an own dict of texts in a field -/
structure SeM where
  s : Addr
  d : Addr
  kd : KD
def fSes (m : SeM) : List (Str × V) := [("_kept", .ref m.d)]
def sesR (K : PySem.W.Frag) (C : Addr) : MR SeM where
  rel := fun m F H B => (∃ dx, H m.s = some (.ins C dx (fSes m))) ∧ (∃ us, H m.d = some (.dK us) ∧ KRel K B us m.kd) ∧ (∀ x, F x ↔ x = m.s ∨ x = m.d) ∧ B m.s = none ∧ B m.d = none
  frame := fun {m F H B H' B'} ⟨h1, ⟨us, a, b⟩, ho, _, _⟩ e s n => by
    have f1 := (ho m.s).mpr (.inl rfl)
    have f2 := (ho m.d).mpr (.inr rfl)
    exact ⟨by rw [e _ f1]; exact h1, ⟨us, by rw [e _ f2]; exact a, b.same s⟩, ho, n _ f1, n _ f2⟩
  dom := fun {m F H B x} ⟨⟨dx, h1⟩, ⟨us, a, _⟩, ho, b1, b2⟩ hx => by
    rcases (ho x).mp hx with rfl | rfl
    · exact ⟨by rw [h1]; simp, b1⟩
    · exact ⟨by rw [a]; simp, b2⟩
theorem clsSes {K : PySem.W.Frag} {C : Addr} {mm : Str} (h : ∀ m : SeM, (fSes m).lookup mm = none) : ClsAt (sesR K C) SeM.s C mm := fun {m F H B} r => by
  obtain ⟨⟨dx, e⟩, _⟩ := r
  exact ⟨dx, _, e, h m⟩
section
variable {M : Type} {R : MR M} {K : PySem.W.Frag} {C : Addr} {get : M → SeM} {set : M → SeM → M} {E : XK} {XP : Addr → M → Prop} {ρ : List Sl} {m : M} {k : Rk → M → Prop} {te td ty tv : TE} {nx bk ct : List Sl → M → Prop} {rt : Rk → M → Prop} {i : Nat}
theorem we_kept (L : Part R (sesR K C) get set) (hC : Cls K C) (hN : NoAttr K C "_kept") (hi : ρ[i]? = some (.v (.ref (get m).s))) (hk : k (.v (.ref (get m).d)) m) : WE R K E XP ρ m (tFld K (tVar i) "_kept") k := by
  unfold WE
  intro F0 H0 B0 F H B σ D Q q
  obtain ⟨w, h1, h2⟩ := D.s i _ hi
  cases (show w = some (.ref (get m).s) from h2)
  obtain ⟨F1, r1, _, _⟩ := L.on D.r
  obtain ⟨dx, h3⟩ := r1.1
  exact ⟨_, h1, (get m).s, C, dx, _, _, rfl, h3, hC, hN, rfl, q _ (.v _) m _ _ _ hk D (.refl D.st.s) rfl⟩
theorem we_sget (L : Part R (sesR K C) get set) (h : WE R K E XP ρ m td fun a m1 => a = .v (.ref (get m1).d) ∧ WE R K E XP ρ m1 ty fun b m2 => m2 = m1 ∧ ∃ z, b = .d (.str z) ∧ ∃ x, lkK (get m2).kd (.inr z) = some x ∧ k (.d x) m2) : WE R K E XP ρ m (tDGet td ty) k := by
  unfold WE at h ⊢
  intro F0 H0 B0 F H B σ D Q q
  refine h D _ fun v a m1 F1 H1 B1 ⟨e1, k1⟩ D1 q1 r1 => ?_
  subst e1
  cases (show v = .ref (get m1).d from r1)
  refine k1 D1 _ fun w b m2 F2 H2 B2 ⟨e2, z, e3, x, e5, k2⟩ D2 q2 r2 => ?_
  subst e2 e3
  obtain rfl := dq_str r2
  obtain ⟨F3, ⟨_, ⟨us, g1, g2⟩, _⟩, _⟩ := L.on D2.r
  rcases g2.get (.inr z) with ⟨_, y⟩ | ⟨u, d', z1, z2, z3⟩
  · rw [e5] at y; cases y
  · rw [e5] at z2
    cases z2
    refine ⟨(get m2).d, u, rfl, ?_, q u (.d x) m2 F2 H2 B2 k2 D2 (q1.trans q2) z3⟩
    rw [← z1]
    exact DGet.k (k := .inr z) g1
theorem we_snotin (L : Part R (sesR K C) get set) (h : WE R K E XP ρ m ty fun b m1 => ∃ z, b = .d (.str z) ∧ WE R K E XP ρ m1 td fun a m2 => m2 = m1 ∧ a = .v (.ref (get m2).d) ∧ k (.d (.bool (!(lkK (get m2).kd (.inr z)).isSome))) m2) : WE R K E XP ρ m (tDNotIn ty td) k := by
  unfold WE at h ⊢
  intro F0 H0 B0 F H B σ D Q qq
  refine h D _ fun v a m1 F1 H1 B1 ⟨z, ea, k1⟩ D1 q1 r1 => ?_
  subst ea
  refine k1 D1 _ fun w b m2 F2 H2 B2 ⟨em, eb, k2⟩ D2 q2 r2 => ?_
  subst em eb
  cases (show w = .ref (get m2).d from r2)
  obtain rfl := dq_str r1
  obtain ⟨F3, ⟨_, ⟨us, g1, g2⟩, _⟩, _⟩ := L.on D2.r
  refine ⟨(get m2).d, _, rfl, DGet.k (k := .inr z) g1, ?_⟩
  refine qq _ _ m2 F2 H2 B2 k2 D2 (q1.trans q2) ?_
  rcases g2.get (.inr z) with ⟨e1, e2⟩ | ⟨u, d, e1, e2, e3⟩
  · rw [e1, e2]; exact .bl _
  · rw [e1, e2]; exact .bl _
theorem ws_sput (L : Part R (sesR K C) get set) (h : WE R K E XP ρ m tv fun r m1 => ∃ x, r = .d x ∧ WE R K E XP ρ m1 td fun a m2 => a = .v (.ref (get m2).d) ∧ WE R K E XP ρ m2 ty fun b m3 => m3 = m2 ∧ ∃ z, b = .d (.str z) ∧ (get m3).kd.length < 90000 ∧ nx ρ (set m3 ⟨(get m3).s, (get m3).d, putKD (get m3).kd (.inr z) x⟩)) :
    WS R K E XP ρ m (sDPut td ty tv) nx rt bk ct := by
  unfold WE at h
  unfold WS
  intro F0 H0 B0 F H B σ D d n r b c
  refine h d _ fun v rv m1 F1 H1 B1 ⟨dd, e1, k1⟩ D1 q1 r1 => ?_
  subst e1
  refine k1 D1 _ fun w ra m2 F2 H2 B2 ⟨e2, k2⟩ D2 q2 r2 => ?_
  subst e2
  cases (show w = .ref (get m2).d from r2)
  refine k2 D2 _ fun u rb m3 F3 H3 B3 ⟨em, z, e3, hl, k3⟩ D3 q3 r3 => ?_
  subst em e3
  obtain rfl := dq_str r3
  obtain ⟨F4, ⟨⟨dx, g1⟩, ⟨us, g2, g3⟩, ho, b1, b2⟩, i4, c4⟩ := L.on D3.r
  have hv : Dq K B3 v dd := dq_same q3.b _ (dq_same q2.b _ r1)
  have hne : (get m3).s ≠ (get m3).d := fun z => by rw [z, g2] at g1; cases g1
  refine ⟨(get m3).d, _, rfl, DPut.k (k := .inr z) g2 (szl (by rw [g3.length]; omega)), ?_⟩
  have r5 : (sesR K C).rel ⟨(get m3).s, (get m3).d, putKD (get m3).kd (.inr z) dd⟩ F4 (upd H3 (get m3).d (.dK (putK us (.inr z) v))) B3 := ⟨⟨dx, by rw [upd_ne hne]; exact g1⟩, ⟨_, upd_same, g3.put _ hv⟩, ho, b1, b2⟩
  obtain ⟨F5, r6, st6, _⟩ := c4 _ F4 _ B3 (.putF D3.st.s ((ho _).mpr (.inr rfl)) b2) r5
  exact n k3 (D3.step st6 r6) (q1.b.trans (q2.b.trans (q3.b.trans st6.b)))
/-- sorted(d) of such a dict -/
theorem cbP_sortS (L : Part R (sesR K C) get set) (ks : List Str) (hks : (get m).kd.map Prod.fst = ks.map Sum.inr) (hl : ks.length < 64) (hk : ∀ ys : List Str, ys.Perm ks → sortedS ys = true → k (.o (ys.map .str)) m) :
    CbP R K E XP ρ m (fun xs H Q => ∃ (a : Addr) (kvs : List (Key × V)) (ks : List Str), xs = [.ref a] ∧ Rd H a (.dK kvs) ∧ kvs.map (·.1) = ks.map Sum.inr ∧ ks.length < 64 ∧ ∀ ys p, ys.Perm ks → sortedS ys = true → H p = none → Q (.ref p) (upd H p (.lst (ys.map V.str)))) [.v (.ref (get m).d)] k := by
  unfold CbP
  intro F0 H0 B0 F H B σ Hs vs D ra Q q
  obtain ⟨v, rfl, r1⟩ := relA1 ra
  cases (show v = .ref (get m).d from r1)
  obtain ⟨F3, ⟨_, ⟨us, g1, g2⟩, _⟩, _⟩ := L.on D.r
  refine ⟨(get m).d, us, ks, rfl, .inl g1, ?_, hl, fun ys p hp hs hn => ?_⟩
  · rw [← hks, ← g2.keys]
  · refine newL D hn (ds := ys.map .str) ?_ (hk ys hp hs) q
    have : ∀ ys : List Str, DqAll K B (ys.map V.str) (ys.map .str) := fun ys => by
      induction ys with
      | nil => exact .nil
      | cons y ys ih => exact .cons (.str y) ih
    exact this ys
end
/-! ## a new one -/
def sp_senew (C : Addr) : Sp := fun vs H Q _ => ∃ p dx, vs = [.ref p] ∧ H p = some (.ins C dx []) ∧ ∀ d H', H d = none → H' p = some (.ins C dx [("_kept", .ref d)]) → H' d = some (.dK []) → (∀ x o, H x = some o → x ≠ p → H' x = some o) → Q .non H'
section
variable {M : Type} {R : MR M} {K : PySem.W.Frag} {E E' : XK} {XP : Addr → M → Prop} {ρ : List Sl} {m : M}
theorem ws_newSes {C : Addr} {u : TS} {i : Nat} {nx bk ct : List Sl → M → Prop} {rt : Rk → M → Prop} (h : ∀ p d, WS (prM R (sesR K C)) K E (fun C x => XP C x.1) (ρ.set i (.v (.ref p))) (m, ⟨p, d, []⟩) u (fun ρ' x => nx ρ' x.1) (fun r x => rt r x.1) (fun ρ' x => bk ρ' x.1) (fun ρ' x => ct ρ' x.1)) :
    WS R K E XP ρ m (tSeq (tAsg (tMake C (sp_senew C) [] E' tNil) (gName i)) u) nx rt bk ct := by
  unfold WS
  intro F0 H0 B0 F H B σ Ds D n r b c
  refine fun x dx hx hd hne => ⟨x, dx, rfl, upd_same, fun d H' hd0 h1 h2 keep => ⟨rfl, ?_⟩⟩
  have ndx : d ≠ x := fun z => by rw [z, upd_same] at hd0; cases hd0
  have hdH : H d = none := by
    rw [upd_ne ndx] at hd0
    by_cases z : d = dx
    · rw [z]; exact hd
    · rw [upd_ne z] at hd0; exact hd0
  have sH : Same H H' := fun y o e => by
    have n1 : y ≠ x := fun z => by rw [z, hx] at e; cases e
    have n2 : y ≠ dx := fun z => by rw [z, hd] at e; cases e
    exact keep y o (by rw [upd_ne n1, upd_ne n2]; exact e) n1
  have D2 := D.pure sH (Same.refl _) (D.st.s.trans sH) fun _ _ z => z
  have D3 : DS R K E XP F0 H0 B0 F H' B (σ.set i (some (.ref x))) (ρ.set i (.v (.ref x))) m := D2.setW i rfl fun _ _ z => by cases z
  have hlive : ∀ (p : Addr), H p ≠ none → ¬ (p = x ∨ p = d) := fun p hp z => by
    rcases z with rfl | rfl
    · exact hp hx
    · exact hp hdH
  have hno : ∀ y, (y = x ∨ y = d) → H y = none := fun y hy => by rcases hy with rfl | rfl <;> assumption
  refine ws_partL (R2 := sesR K C) (m2 := ⟨x, d, []⟩) (h x d) Ds D3 (F2 := fun y => y = x ∨ y = d) ⟨⟨dx, h1⟩, ⟨[], h2, .nil⟩, fun _ => Iff.rfl, b_none D.st.s hx, b_none D.st.s hdH⟩
    (fun y hy => Classical.byContradiction fun z => D.st.e y z (hno y hy)) (fun y hy hF => (R.dom D.r hF).1 (hno y hy)) (fun j p xs hj hp => ?_) n r b c
  by_cases hji : j = i
  · subst hji
    exfalso
    rcases hj with hj | hj <;> (rw [List.getElem?_set_self'] at hj; cases hq : ρ[j]? <;> rw [hq] at hj <;> cases hj)
  · rw [List.getElem?_set_ne (Ne.symm hji)] at hj hp
    rcases hj with hj | hj
    · obtain ⟨w, w1, pp, vs2, rfl, g1, _⟩ := D.s j _ hj
      rw [hp] at w1
      cases w1
      exact hlive p (by rw [g1]; simp)
    · obtain ⟨w, w1, pp, vs2, rfl, g1, _⟩ := D.s j _ hj
      rw [hp] at w1
      cases w1
      exact hlive p (by rw [g1]; simp)
end
/-! # methods whose arguments may be things of the state, and which may raise; a try -/
def spAX {M : Type} (R : MR M) (K : PySem.W.Frag) (pre : M → List Rk → Prop) (post : M → List Rk → Rk → M → Prop) (bad : M → List Rk → Addr → M → Prop) : Sp := fun vs H Q E => ∃ m rs F B, RelA K H F H B vs rs ∧ rs.all argOk = true ∧ Same B H ∧ R.rel m F H B ∧ pre m rs ∧
  (∀ v r m' F' H' B', post m rs r m' → Stq F H B F' H' B' → R.rel m' F' H' B' → RelR K H F' H' B' v r → Q v H') ∧ ∀ C m' F' H' B', bad m rs C m' → Stq F H B F' H' B' → R.rel m' F' H' B' → E (.ref C) none H'
theorem run_AX {M : Type} {R : MR M} {K : PySem.W.Frag} {E : XK} {pre : M → List Rk → Prop} {post : M → List Rk → Rk → M → Prop} {bad : M → List Rk → Addr → M → Prop} {vs : List V} {H : Hp} {Q : VK} {N : List Str} {ts : TS} (h : spAX R K pre post bad vs H Q E) (n : Nat) (hn : N.length - vs.length = n)
    (body : ∀ m rs, pre m rs → WS R K E (fun C m' => bad m rs C m') (rs.map slA ++ List.replicate n Sl.u) m ts (fun _ m' => post m rs (.d .none) m') (fun r m' => post m rs r m') (fun _ _ => False) (fun _ _ => False)) :
    ts { nx := fun _ H' => Q .non H', rt := Q } (L2.start N vs) H := by
  obtain ⟨m, rs, F, B, hd, ha, hB, hR, hp, q, qx⟩ := h
  have hl := relA_len hd
  have D0 : DS R K E (fun C m' => bad m rs C m') F H B F H B (L2.start N vs) (rs.map slA ++ List.replicate n Sl.u) m := by
    refine ⟨by unfold L2.start; simp [hl] at hn ⊢; omega, .refl hB, hR, fun i t ht => ?_, fun i j p xs ys h1 => ?_, qx⟩
    · unfold L2.start
      by_cases hi : i < rs.length
      · rw [List.getElem?_append_left (by rw [List.length_map]; exact hi), List.getElem?_map, List.getElem?_eq_getElem hi] at ht
        cases ht
        obtain ⟨v, h1, h2⟩ := relA_at hd (List.getElem?_eq_getElem hi)
        refine ⟨some v, ?_, ?_⟩
        · rw [List.getElem?_append_left (by rw [List.length_map]; omega), List.getElem?_map, h1]
          rfl
        · generalize rs[i] = r at h2
          cases r with
          | d x => exact ⟨v, rfl, h2⟩
          | l xs => obtain ⟨p, us, rfl, g1, g2, g3⟩ := h2; exact ⟨p, us, rfl, g1, g2, by rw [g1]; simp, g3⟩
          | v x => exact congrArg some h2
          | o xs => exact True.intro
          | c xs => exact True.intro
      · rw [List.getElem?_append_right (by rw [List.length_map]; omega), List.getElem?_replicate] at ht
        split at ht
        · next hc =>
          cases ht
          rw [List.length_map] at hc
          refine ⟨none, ?_, True.intro⟩
          rw [List.getElem?_append_right (by rw [List.length_map]; omega), List.getElem?_replicate, if_pos (by rw [List.length_map]; omega)]
        · cases ht
    · have := List.mem_of_getElem? h1
      rcases List.mem_append.mp this with z | z
      · obtain ⟨x, _, e⟩ := List.mem_map.mp z
        cases x <;> cases e
      · have := (List.mem_replicate.mp z).2; cases this
  have hb := body m rs hp
  unfold WS at hb
  exact hb _ D0 (fun hk D' _ => q .non (.d .none) _ _ _ _ hk D'.st D'.r .non) (fun hk st hF rel => q _ _ _ _ _ _ hk st hF rel) (fun z => z.elim) (fun z => z.elim)
theorem okAX {M : Type} {R : MR M} {P : Program} {w : World} {K : PySem.W.Frag} {mg : Str → Option Value} {base : Heap} {x qual : Str} {st : Stmt} {f : Addr} {fd : FuncData} {N ps : List Str} {k : Nat} {pre : M → List Rk → Prop} {post : M → List Rk → Rk → M → Prop} {bad : M → List Rk → Addr → M → Prop}
    (F : Fun K x qual st f fd) (S : FnScope N ps (defScope st)) (n : Nat) (hn : N.length = ps.length + n) (len : ∀ m rs, pre m rs → rs.length = ps.length)
    (hb : ∀ (cdv : Value) (A : Around) (outer : List Env) (s : Shared) (H : Hp) (E : XK), Room k (A.deeper (envOfC qual (defScope st) s.heap.objs.size f cdv)) →
      ∃ t, PSs (cxOf (L2.CX P w) P w K mg base N qual (defScope st) f cdv A outer s H E) (defBody st) t ∧
        ∀ m rs, pre m rs → WS R K E (fun C m' => bad m rs C m') (rs.map slA ++ List.replicate n Sl.u) m t (fun _ m' => post m rs (.d .none) m') (fun r m' => post m rs r m') (fun _ _ => False) (fun _ _ => False)) : FnOk P w K mg base (L2.CX P w) (k + 1) f fd ps (spAX R K pre post bad) :=
  F.okX S (fun vs H Q E ⟨m, rs, F, B, hd, _, _, _, hp, _⟩ => by rw [relA_len hd, len m rs hp]) fun cdv A outer s H vs Q E hr h => by
    obtain ⟨t, h1, h2⟩ := hb cdv A outer s H E hr
    refine ⟨t, h1, run_AX h n ?_ fun m rs hp => h2 m rs hp⟩
    obtain ⟨m, rs, F, B, hd, _, _, _, hp, _⟩ := h
    rw [relA_len hd, len m rs hp, hn]
    omega
section
variable {M M1 : Type} {R : MR M} {R1 : MR M1} {get : M → M1} {set : M → M1 → M} {K : PySem.W.Frag} {E E' : XK} {XP : Addr → M → Prop} {ρ : List Sl} {m : M} {k : Rk → M → Prop} {te : TE} {tr : TA}
theorem we_methA {at_ : M → Addr} {pre : M → List Rk → Prop} {post : M → List Rk → Rk → M → Prop} {bad : M → List Rk → Addr → M → Prop} {C : Addr} {mm : Str} {i : Nat} (hc : ClsAt R at_ C mm) (hi : ρ[i]? = some (.v (.ref (at_ m))))
    (h : WA R K E XP ρ m tr fun rs m1 => (rs.map asL).all argOk = true ∧ pre m1 (.v (.ref (at_ m)) :: rs.map asL) ∧ (∀ C m2, bad m1 (.v (.ref (at_ m)) :: rs.map asL) C m2 → XP C m2 ∧ E' = E) ∧ ∀ r m2, post m1 (.v (.ref (at_ m)) :: rs.map asL) r m2 → k r m2) : WE R K E XP ρ m (tMeth C mm (spAX R K pre post bad) [] E' (tVar i) tr) k := by
  unfold WE
  intro F0 H0 B0 F H B σ D Q q
  obtain ⟨w, h1, h2⟩ := D.s i _ hi
  cases (show w = some (.ref (at_ m)) from h2)
  obtain ⟨dx, fs, h3, h4⟩ := hc D.r
  unfold WA at h
  refine ⟨_, h1, at_ m, dx, fs, rfl, h3, h4, h D _ fun vs rs m1 F1 H1 B1 ⟨ha, hp, hx, hk⟩ D1 q1 r1 => ?_⟩
  refine ⟨m1, .v (.ref (at_ m)) :: rs.map asL, F1, B1, ⟨rfl, by rw [List.append_nil]; exact relA_asL r1⟩, by rw [List.all_cons, ha]; rfl, D1.st.s, D1.r, hp, fun v r m' F' H' B' hr st rl rel => ?_, fun C m' F' H' B' hb st rl => ?_⟩
  · exact q v r m' F' H' B' (hk r m' hr) (D1.step st rl) (q1.trans st) (rel.base fun x hx => q1.e x hx)
  · obtain ⟨hX, hE⟩ := hx C m' hb
    rw [hE]
    exact D1.x C m' F' H' B' hX (D1.st.trans st) rl
theorem we_methPX {at_ : M1 → Addr} {pre : M1 → List PyData → Prop} {post : M1 → List PyData → Rk → M1 → Prop} {bad : M1 → List PyData → Addr → Prop} (L : Part R R1 get set) {C : Addr} {mm : Str} {i : Nat} (hc : ClsAt R1 at_ C mm) (hi : ρ[i]? = some (.v (.ref (at_ (get m)))))
    (h : WA R K E XP ρ m tr fun rs m1 => ∃ ds, DLo rs = some ds ∧ at_ (get m1) = at_ (get m) ∧ pre (get m1) ds ∧ (∀ D, bad (get m1) ds D → XP D (set m1 (get m1)) ∧ E' = E) ∧ ∀ r m2, post (get m1) ds r m2 → notL r ∧ k r (set m1 m2)) : WE R K E XP ρ m (tMeth C mm (spM R1 K at_ pre post bad) [] E' (tVar i) tr) k := by
  unfold WE
  intro F0 H0 B0 F H B σ D Q q
  obtain ⟨w, h1, h2⟩ := D.s i _ hi
  cases (show w = some (.ref (at_ (get m))) from h2)
  obtain ⟨F1, r1, _, _⟩ := L.on D.r
  obtain ⟨dx, fs, h3, h4⟩ := hc r1
  refine ⟨_, h1, at_ (get m), dx, fs, rfl, h3, h4, wa_data h D _ fun vs ds m1 F1 H1 B1 ⟨ea, hp, hn, hk⟩ D1 q1 hd => ?_⟩
  obtain ⟨F2, r2, i2, c2⟩ := L.on D1.r
  refine ⟨get m1, vs, ds, F2, B1, by rw [List.append_nil, ea], hd, D1.st.s, r2, hp, fun v r m' F' H' B' hr st rl rel => ?_, fun C F' H' B' hb st rl => ?_⟩
  · obtain ⟨F3, r3, st3, n3⟩ := c2 m' F' H' B' st rl
    obtain ⟨nl, hkr⟩ := hk r m' hr
    exact q v r _ F3 H' B' hkr (D1.step st3 r3) (q1.trans st3) ((rel_part n3 rel nl).base fun x hx => q1.e x hx)
  · obtain ⟨F3, r3, st3, _⟩ := c2 _ F' H' B' st rl
    obtain ⟨hX, hE⟩ := hn C hb
    rw [hE]
    exact D1.x C _ F3 H' B' hX (D1.st.trans st3) r3
end
/-- a slot whose list is lent -/
def lendS : Sl → Sl
  | .o xs => .l xs
  | s => s
section
variable {M : Type} {R : MR M} {K : PySem.W.Frag} {E : XK} {XP Bad : Addr → M → Prop} {ρ : List Sl} {m : M} {nx bk ct : List Sl → M → Prop} {rt : Rk → M → Prop}
/-- try: an expression; except c as e: one suite -/
theorem ws_try {te : XK → TE} {tw : WX → TE} {c : Value} {i : Nat} {ts : Addr → Value → Option Addr → TS} {Wout : WX} (Bad : Addr → M → Prop) (hte : ∀ (W : WX) σ H Q, te (fun cl dd J => W cl dd σ J) σ H Q → tw W σ H Q)
    (h : ∀ E', WE R K E' Bad (ρ.map lendS) m (te E') fun _ m' => nx ρ m')
    (hb : ∀ C m', Bad C m' → PySem.W.exmOne K (.ref C) c = some true ∧ ∀ a, WS R K E XP (ρ.set i (.v (.ref a))) m' (ts a (.ref C) none) (fun ρ' m'' => nx (ρ'.set i .u) m'') rt (fun ρ' m'' => bk (ρ'.set i .u) m'') fun ρ' m'' => ct (ρ'.set i .u) m'') :
    WS R K E XP ρ m (fun D σ H => tDrop (tw (wAs K c i ts Wout D)) D σ H) nx rt bk ct := by
  unfold WE at h
  unfold WS at *
  intro F0 H0 B0 F H B σ Ds D n r b cc
  have DD : DS R K (fun cl dd J => wAs K c i ts Wout Ds cl dd σ J) Bad F H B F H B σ (ρ.map lendS) m := by
    refine ⟨by rw [List.length_map]; exact D.l, .refl D.st.s, D.r, fun j t ht => ?_, fun j j' p xs ys h1 => ?_, fun C m' F' H' B' hB st rl => ?_⟩
    · rw [List.getElem?_map] at ht
      cases hq : ρ[j]? with
      | none => rw [hq] at ht; cases ht
      | some s =>
        rw [hq] at ht
        cases ht
        obtain ⟨w, h1, h2⟩ := D.s j s hq
        refine ⟨w, h1, ?_⟩
        cases s with
        | u => exact True.intro
        | d x => exact h2
        | o xs => obtain ⟨p, vs, rfl, g1, g2, g3, g4, g5⟩ := h2; exact ⟨p, vs, rfl, g1, g3, by rw [g1]; simp, g5⟩
        | v x => exact h2
        | l xs => obtain ⟨p, vs, rfl, g1, g3, g4, g5⟩ := h2; exact ⟨p, vs, rfl, g1, g3, by rw [g1]; simp, g5⟩
    · rw [List.getElem?_map] at h1
      cases hq : ρ[j]? with
      | none => rw [hq] at h1; cases h1
      | some s => rw [hq] at h1; cases s <;> cases h1
    · obtain ⟨e1, e2⟩ := hb C m' hB
      refine ⟨true, e1, fun _ a ha => ?_, fun z => Bool.noConfusion z⟩
      have D1 := D.step st rl
      have D2 : DS R K E XP F0 H0 B0 F' H' B' (σ.set i (some (.ref a))) (ρ.set i (.v (.ref a))) m' := D1.setW i rfl fun _ _ z => by cases z
      exact e2 a _ D2 (fun hk D' s' => n hk (D'.setW i True.intro fun _ _ z => by cases z) (st.b.trans s')) (fun hk st' hF rel => r hk st' hF rel) (fun hk D' s' => b hk (D'.setW i True.intro fun _ _ z => by cases z) (st.b.trans s')) fun hk D' s' => cc hk (D'.setW i True.intro fun _ _ z => by cases z) (st.b.trans s')
  refine hte _ σ H _ (h _ DD _ fun v r' m' F' H' B' hk D' q' rel' => ?_)
  exact n hk (D.step q' D'.r) q'.b
/-- isinstance of the exception that a suite holds -/
theorem cbP_isE {k : Rk → M → Prop} {D a : Addr} {C : Addr} {b : Bool} (e : PySem.W.kitOne K (.ref D) (.ref C) = some b) (hk : k (.d (.bool b)) m) : CbP R K E XP ρ m (fun xs H Q => Value.ref D = .ref D ∧ (none : Option Addr) = none ∧ rIsE K D a xs H Q) [.v (.ref a), .v (.ref C)] k := by
  unfold CbP
  intro F0 H0 B0 F H B σ Hs vs DD ra Q q
  match vs, ra with
  | [v1, v2], ⟨g1, g2, _⟩ =>
    cases (show v1 = .ref a from g1)
    cases (show v2 = .ref C from g2)
    exact ⟨rfl, rfl, _, _, b, rfl, (fun _ r => r), e, q _ _ m _ _ _ hk DD (.refl DD.st.s) (.bl b)⟩
end
/-- a def that may raise, called where a raise is allowed -/
theorem we_callXX {M : Type} {R : MR M} {K : PySem.W.Frag} {E : XK} {XP : Addr → M → Prop} {ρ : List Sl} {m : M} {k : Rk → M → Prop} {tr : TA} {pre : List PyData → Prop} {post : List PyData → Rk → Prop} {bad : List PyData → Addr → Prop} {E' : XK} (h : WA R K E XP ρ m tr fun rs m1 => ∃ ds, DLo rs = some ds ∧ pre ds ∧ (∀ C, bad ds C → XP C m1 ∧ E' = E) ∧ ∀ r, post ds r → k r m1) : WE R K E XP ρ m (tCall (spX K pre post bad) [] E' tr) k := by
  unfold WE
  intro F0 H0 B0 F H B σ D Q q
  refine wa_data h D _ fun vs ds m1 F1 H1 B1 ⟨hp, hn, hk⟩ D1 q1 hd => ?_
  refine ⟨ds, B1, by rw [List.append_nil]; exact hd, D1.st.s, hp, fun v r H' B' hr s1 b1 t1 f1 rel => ?_, fun C H' hb s1 => ?_⟩
  · have D2 := D1.pure s1 b1 t1 f1
    have q2 := q1.trans (Stq.pure (F := F1) s1 b1 t1 f1)
    refine q v r m1 F1 H' B' (hk r hr) D2 q2 ?_
    cases r with
    | d x => exact rel
    | o xs =>
      obtain ⟨p, us, rfl, g1, g2, g3, g4⟩ := rel
      exact ⟨p, us, rfl, g1, g2, D1.nF g3, Classical.byContradiction fun z => q1.e p z g3, g4⟩
    | l _ => exact rel.elim
    | v _ => exact rel.elim
    | c _ => exact rel.elim
  · have D2 := D1.pure s1 (Same.refl _) (D1.st.s.trans s1) fun _ _ z => z
    obtain ⟨hX, hE⟩ := hn C hb
    rw [hE]
    exact D2.x C m1 F1 H' B1 hX D2.st D2.r
end My
local macro_rules | `(tactic| walk_at "go") => `(tactic| try dsimp only [L2.gName, L2.tSeq, L2.tAsg, L2.tNext, L2.tDrop])
local macro_rules | `(tactic| walk_at "zE") => `(tactic| first
  | ((with_reducible refine' My.we_var ?e ?_); case e => exact rfl)
  | ((with_reducible refine' My.we_fldI ?c ?n ?i ?l ?_); (case c => assumption); (case n => assumption); (case i => exact rfl); case l => exact rfl)
  | ((with_reducible refine' My.we_fldV ?c ?n ?i ?l ?_); (case c => assumption); (case n => assumption); (case i => exact rfl); case l => exact rfl)
  | with_reducible refine My.we_get1 ?_
  | ((with_reducible refine' My.we_ent ?e ?_); case e => exact rfl)
  | with_reducible refine My.we_din ?_
  | with_reducible refine My.we_sbk ?_
  | with_reducible refine My.we_tupo ?_
  | with_reducible refine My.we_lsto ?_
  | with_reducible refine My.we_int ?_
  | with_reducible refine My.we_op ?_
  | with_reducible refine My.we_cb ?_
  | with_reducible refine My.we_str ?_
  | with_reducible refine My.we_bl ?_
  | with_reducible refine My.we_non ?_
  | with_reducible refine My.we_ty ?_
  | ((with_reducible refine' My.we_varO ?e ?_); case e => exact rfl)
  | ((with_reducible refine' My.we_varL ?e ?_); case e => exact rfl)
  | ((with_reducible refine' My.we_varV ?e ?_); case e => exact rfl)
  | with_reducible refine My.we_call1 ?_
  | with_reducible refine My.we_call2 ?_
  | with_reducible refine My.we_call3 ?_
  | with_reducible refine My.we_callQ1 ?_
  | with_reducible refine My.we_callQ2 ?_
  | with_reducible refine My.we_callQ3 ?_
  | with_reducible refine My.we_callL1o ?_
  | with_reducible refine My.we_callL2o ?_
  | with_reducible refine My.we_callL3o ?_
  | with_reducible refine My.we_chain ?_
  | with_reducible refine My.we_andV ?_
  | with_reducible refine My.we_orV ?_
  | with_reducible refine My.we_notV ?_
  | with_reducible refine My.we_if ?_
  | with_reducible refine My.we_sl ?_
  | with_reducible refine My.we_joined ?_
  | with_reducible refine My.we_join ?_
  | with_reducible refine My.we_neg ?_)
local macro_rules | `(tactic| walk_at "zS") => `(tactic| first
  | with_reducible refine My.ws_seq ?_
  | ((with_reducible refine' My.ws_revaug ?c ?n ?i ?_); (case c => assumption); (case n => assumption); case i => exact rfl)
  | with_reducible refine My.ws_dput ?_
  | with_reducible refine My.ws_ddel ?_
  | ((with_reducible refine' My.ws_chapp ?c ?n ?i ?_); (case c => assumption); (case n => assumption); case i => exact rfl)
  | with_reducible refine My.ws_next ?_
  | ((with_reducible refine' My.ws_norm ?e ?_); case e => (dsimp only [List.set, My.slOf] <;> exact rfl))
  | with_reducible refine My.ws_asg ?_
  | ((with_reducible refine' My.ws_retO ?e ?_); case e => exact rfl)
  | with_reducible refine My.ws_ret ?_
  | with_reducible refine My.ws_if ?_
  | with_reducible refine My.ws_retN ?_
  | with_reducible refine My.ws_leave ?_
  | with_reducible refine My.ws_asgU ?_
  | with_reducible refine My.ws_asgG ?_
  | with_reducible refine My.ws_brk ?_
  | with_reducible refine My.ws_cont ?_
  | ((with_reducible refine' My.ws_append ?e ?l ?_); (case e => exact rfl); case l => walk_at "pp")
  | ((with_reducible refine' My.ws_extend ?e ?_); case e => exact rfl)
  | with_reducible refine My.ws_drop ?_)
local macro_rules | `(tactic| walk_at "zA") => `(tactic| first
  | with_reducible refine My.wa_cons ?_
  | with_reducible refine My.wa_nil ?_)
local macro_rules | `(tactic| walk_at "zO") => `(tactic| first
  | with_reducible refine My.opP_add ?_
  | with_reducible refine My.opP_sub ?_
  | with_reducible refine My.opP_lt ?_
  | with_reducible refine My.opP_le ?_
  | with_reducible refine My.opP_gt ?_
  | with_reducible refine My.opP_ge ?_
  | ((with_reducible refine' My.opP_mod ?e ?_); case e => (first | decide | omega))
  | ((with_reducible refine' My.opP_fdiv ?e ?_); case e => exact ⟨by first | decide | omega, by first | decide | omega⟩)
  | ((with_reducible refine' My.opP_mul ?e ?_); case e => first | exact .inl ⟨by decide, by decide⟩ | exact .inr ⟨by decide, by decide⟩ | exact .inl ⟨by omega, by omega⟩ | exact .inr ⟨by omega, by omega⟩)
  | ((with_reducible refine' My.opP_catT ?e ?_); case e => walk_at "ct")
  | ((with_reducible refine' My.opP_repS ?e ?_); case e => exact ⟨by decide, by decide, by decide, by decide⟩)
  | ((with_reducible refine' My.opP_pow ?e ?_); case e => exact ⟨by decide, by decide, by decide⟩)
  | with_reducible refine My.opP_eqI ?_
  | with_reducible refine My.opP_neI ?_
  | with_reducible refine My.opP_eqS ?_
  | with_reducible refine My.opP_neS ?_
  | with_reducible refine My.opP_isB ?_
  | with_reducible refine My.opP_notB ?_
  | with_reducible refine My.opP_eqB ?_
  | with_reducible refine My.opP_neB ?_
  | ((with_reducible refine' My.opP_isN ?e ?_); case e => exact rfl)
  | ((with_reducible refine' My.opP_notN ?e ?_); case e => exact rfl)
  | ((with_reducible refine' My.opP_ixT ?e ?_); case e => (first | exact rfl | assumption))
  | ((with_reducible refine' My.opP_ixL ?a ?e ?_); (case a => exact rfl); case e => (first | exact rfl | assumption))
  | ((with_reducible refine' My.opP_eqD ?a ?b ?c ?d ?_); (case a => exact rfl); (case b => exact rfl); (case c => walk_at "sh"); case d => walk_at "sh")
  | ((with_reducible refine' My.opP_neD ?a ?b ?c ?d ?_); (case a => exact rfl); (case b => exact rfl); (case c => walk_at "sh"); case d => walk_at "sh")
  | ((with_reducible refine' My.opP_inD ?a ?b ?c ?d ?_); (case a => exact rfl); (case b => exact rfl); (case c => walk_at "sh"); case d => walk_at "sh")
  | ((with_reducible refine' My.opP_notInD ?a ?b ?c ?d ?_); (case a => exact rfl); (case b => exact rfl); (case c => walk_at "sh"); case d => walk_at "sh")
  | ((with_reducible refine' My.opP_inT ?a ?b ?c ?d ?_); (case a => exact rfl); (case b => exact rfl); (case c => walk_at "sh"); case d => walk_at "sh")
  | ((with_reducible refine' My.opP_notInT ?a ?b ?c ?d ?_); (case a => exact rfl); (case b => exact rfl); (case c => walk_at "sh"); case d => walk_at "sh")
  | with_reducible refine My.opP_ltS ?_
  | with_reducible refine My.opP_gtS ?_
  | with_reducible refine My.opP_leS ?_
  | with_reducible refine My.opP_geS ?_
  | with_reducible refine My.opP_inSign ?_
  | with_reducible refine My.opP_notInS1 ?_)
local macro_rules | `(tactic| walk_at "zC") => `(tactic| first
  | ((with_reducible refine' My.cbP_isB ?e ?_); case e => exact rfl)
  | ((with_reducible refine' My.cbP_isI ?e ?_); case e => exact rfl)
  | ((with_reducible refine' My.cbP_isS ?e ?_); case e => exact rfl)
  | ((with_reducible refine' My.cbP_isT ?e ?_); case e => exact rfl)
  | ((with_reducible refine' My.cbP_isL ?e ?_); case e => exact rfl)
  | ((with_reducible refine' My.cbP_lenL ?e ?_); case e => exact rfl)
  | with_reducible refine My.cbP_lenT ?_
  | with_reducible refine My.cbP_int ?_
  | with_reducible refine My.cbP_intB ?_
  | with_reducible refine My.cbP_ord ?_
  | with_reducible refine My.cbP_abs ?_
  | ((with_reducible refine' My.cbP_lenS ?e ?_); case e => walk_at "ln")
  | ((with_reducible refine' My.cbP_listL ?e ?_); case e => exact rfl)
  | with_reducible refine My.cbP_listT ?_
  | ((with_reducible refine' My.cbP_tupL ?e ?_); case e => exact rfl)
  | with_reducible refine My.cbP_tupT ?_)
local macro_rules | `(tactic| walk_at "zT") => `(tactic| first
  | with_reducible refine My.wt_test ?_
  | with_reducible refine My.wt_b ?_
  | with_reducible refine My.wt_not ?_
  | with_reducible refine My.wt_and ?_
  | with_reducible refine My.wt_or ?_
  | with_reducible refine My.wt_truR ?_
  | with_reducible refine My.wt_yes ?_)
local macro_rules | `(tactic| walk_at "zG") => `(tactic| first
  | with_reducible refine My.wg_name ?_
  | ((with_reducible refine' My.wg_tup ?e ?_); case e => exact rfl))
local macro_rules | `(tactic| walk_at "zH") => `(tactic| first
  | with_reducible refine My.wgs_cons ?_
  | with_reducible refine My.wgs_nil ?_)
local macro_rules | `(tactic| walk_at "zL") => `(tactic| first
  | ((with_reducible refine' My.slP_L ?e ?_); case e => exact rfl)
  | ((with_reducible refine' My.slP_S ?e ?_); case e => walk_at "ln")
  | with_reducible refine My.slP_T ?_)
local macro_rules | `(tactic| walk_at "zP") => `(tactic| first
  | with_reducible refine My.wo_none ?_
  | with_reducible refine My.wo_part ?_)
local macro_rules | `(tactic| walk_at "zI") => `(tactic| first
  | with_reducible refine My.wi_str ?_
  | with_reducible refine My.wi_list ?_
  | with_reducible refine My.wi_tup ?_
  | with_reducible refine My.wi_rngLen ?_
  | with_reducible refine My.wi_rng1 ?_
  | with_reducible refine My.wi_rng2 ?_)
local macro_rules | `(tactic| walk_at "zJ") => `(tactic| first
  | with_reducible refine My.wj_cons ?_
  | with_reducible refine My.wj_nil ?_)
local macro_rules | `(tactic| walk_at "p1") => `(tactic| first
  | ((with_reducible refine My.isWE ?_); walk_at "zE")
  | ((with_reducible refine My.isWS ?_); walk_at "zS")
  | ((with_reducible refine My.isWA ?_); walk_at "zA")
  | ((with_reducible refine My.isOp ?_); walk_at "zO")
  | ((with_reducible refine My.isCb ?_); walk_at "zC")
  | ((with_reducible refine My.isWT ?_); walk_at "zT")
  | ((with_reducible refine My.isWG ?_); walk_at "zG")
  | ((with_reducible refine My.isWGs ?_); walk_at "zH")
  | ((with_reducible refine My.isSlp ?_); walk_at "zL")
  | ((with_reducible refine My.isWO ?_); walk_at "zP")
  | ((with_reducible refine My.isWI ?_); walk_at "zI")
  | ((with_reducible refine My.isWJ ?_); walk_at "zJ"))
local macro_rules | `(tactic| walk_at "p2") => `(tactic| first | ((with_reducible refine' (Exists.intro _ (And.intro ?e ?_))); case e => exact rfl) | ((with_reducible refine' (Exists.intro _ (Exists.intro _ (And.intro ?e ?_)))); case e => exact rfl) | ((with_reducible refine' (Exists.intro _ (Exists.intro _ (Exists.intro _ (And.intro ?e ?_))))); case e => exact rfl) | (walk_at "pf") | ((with_reducible refine' (And.intro ?p ?_)); case p => walk_at "pp"))
local macro_rules | `(tactic| walk_at "px") => `(tactic| repeat (first | (walk_at "p1") | (walk_at "p2")))
local macro_rules | `(tactic| walk_at "pw") => `(tactic| ((walk_at "px"); try ((walk_at "pi") <;> (intro hh; first | (exfalso; omega) | walk_at "pw"))))
local macro_rules | `(tactic| walk_at "pp") => `(tactic| first | assumption | exact True.intro | exact rfl | exact Nat.le_of_ble_eq_true rfl | exact ⟨_, rfl⟩ | exact ⟨_, _, rfl, rfl⟩ | exact ⟨_, rfl, by assumption⟩ | exact ⟨by assumption, by assumption⟩ | exact ⟨by assumption, _, rfl⟩ | exact ⟨by assumption, by assumption, by assumption⟩ | omega | (walk_at "ln") | (walk_at "sh"))
local macro_rules | `(tactic| walk_at "ct") => `(tactic| first | exact Nat.le_of_ble_eq_true rfl | (simp only [List.length_append, List.length_cons, List.length_nil, List.length_map]; omega))
local macro_rules | `(tactic| walk_at "sh") => `(tactic| first | assumption | exact My.okx_sh (n := 8) (by assumption) | decide +kernel)
local macro_rules | `(tactic| walk_at "ln") => `(tactic| first | assumption | exact My.sz (My.okx_str (n := 8) (by assumption)).1 | exact My.sz (by assumption) | exact My.sz (by omega) | decide +kernel)
local macro_rules | `(tactic| walk_at "pr") => `(tactic| first | exact My.r1d rfl | exact My.r2d rfl | exact My.r3d rfl)
local macro_rules | `(tactic| walk_at "pi") => `(tactic| first | refine My.ifp ?_ ?_ | refine My.ifq ?_ ?_ | refine My.ifnp ?_ ?_ | refine My.ifnq ?_ ?_ | refine My.ifnb ?_ ?_ | refine My.ifnbq ?_ ?_ | refine My.ifb ?_ ?_ | refine My.ifbq ?_ ?_)
local macro_rules | `(tactic| walk_at "pf") => `(tactic| ((with_reducible refine ⟨fun hb => ?pl, fun hb => ?pr⟩); first | (case pr => (cases hb; done)) | (case pl => (cases hb; done))))
local macro_rules | `(tactic| walk_at "pn") => `(tactic| ((first | with_reducible refine' My.ws_eq ?e ?_ | with_reducible refine' My.wg_eq ?e ?_ | with_reducible refine' My.wt_eq ?e ?_); case e => (dsimp only [List.map, List.replicate, List.set, My.slOf, My.slA, My.asL, My.wipeS, List.cons_append, List.nil_append] <;> exact rfl)))
local macro_rules | `(tactic| walk_at "ww") => `(tactic| repeat (first | exact My.wipes_name (by decide) | exact My.wipes_nil | refine My.wipes_tup ?_ | refine My.wipes_cons ?_ ?_))
local macro_rules | `(tactic| walk_at "wk") => `(tactic| repeat (first | exact True.intro | refine ⟨.inl rfl, ?_⟩ | refine ⟨.inr rfl, ?_⟩))
namespace My
open PySem PySem.Spec PyProof.Rows L2
def topS (i : Nat) : Stmt := PySem.Challenge.pw_majordomo_k35_commands_run_once.main.body.getD i (.Pass ⟨0, 0, 0, 0⟩)
abbrev s_Sessions___init__ : Stmt := (inClass (topS 2) 0)
theorem sc_Sessions___init__ : FnScope ["self"] ["self"] (defScope s_Sessions___init__) := ⟨rfl, rfl, rfl, by decide +kernel, rfl, by decide +kernel, by decide +kernel⟩
abbrev s_Sessions_run : Stmt := (inClass (topS 2) 1)
theorem sc_Sessions_run : FnScope ["self", "store", "command", "origin", "number", "transaction", "answer"] ["self", "store", "command"] (defScope s_Sessions_run) := ⟨rfl, rfl, rfl, by decide +kernel, rfl, by decide +kernel, by decide +kernel⟩
abbrev s_Sessions_answer : Stmt := (inClass (topS 2) 2)
theorem sc_Sessions_answer : FnScope ["self", "origin", "number"] ["self", "origin", "number"] (defScope s_Sessions_answer) := ⟨rfl, rfl, rfl, by decide +kernel, rfl, by decide +kernel, by decide +kernel⟩
abbrev s_Sessions_last : Stmt := (inClass (topS 2) 3)
theorem sc_Sessions_last : FnScope ["self", "origin"] ["self", "origin"] (defScope s_Sessions_last) := ⟨rfl, rfl, rfl, by decide +kernel, rfl, by decide +kernel, by decide +kernel⟩
abbrev s_Sessions_image : Stmt := (inClass (topS 2) 4)
theorem sc_Sessions_image : FnScope ["self", "origin"] ["self"] (defScope s_Sessions_image) := ⟨rfl, rfl, rfl, by decide +kernel, rfl, by decide +kernel, by decide +kernel⟩
abbrev s_Sessions_from_image : Stmt := (inClass (topS 2) 5)
theorem sc_Sessions_from_image : FnScope ["image", "sessions", "origin", "number", "answer"] ["image"] (defScope s_Sessions_from_image) := ⟨rfl, rfl, rfl, by decide +kernel, rfl, by decide +kernel, by decide +kernel⟩
abbrev s_has_plain_characters : Stmt := (topS 12)
theorem sc_has_plain_characters : FnScope ["text", "character", "code"] ["text"] (defScope s_has_plain_characters) := ⟨rfl, rfl, rfl, by decide +kernel, rfl, by decide +kernel, by decide +kernel⟩
abbrev s_is_integer_within : Stmt := (topS 13)
theorem sc_is_integer_within : FnScope ["number", "low", "high"] ["number", "low", "high"] (defScope s_is_integer_within) := ⟨rfl, rfl, rfl, by decide +kernel, rfl, by decide +kernel, by decide +kernel⟩
abbrev s_is_plain_name : Stmt := (topS 23)
theorem sc_is_plain_name : FnScope ["name", "character"] ["name"] (defScope s_is_plain_name) := ⟨rfl, rfl, rfl, by decide +kernel, rfl, by decide +kernel, by decide +kernel⟩
abbrev s_is_slot_name : Stmt := (topS 24)
theorem sc_is_slot_name : FnScope ["name"] ["name"] (defScope s_is_slot_name) := ⟨rfl, rfl, rfl, by decide +kernel, rfl, by decide +kernel, by decide +kernel⟩
abbrev s_is_text : Stmt := (topS 25)
theorem sc_is_text : FnScope ["text"] ["text"] (defScope s_is_text) := ⟨rfl, rfl, rfl, by decide +kernel, rfl, by decide +kernel, by decide +kernel⟩
abbrev s_is_count : Stmt := (topS 26)
theorem sc_is_count : FnScope ["number"] ["number"] (defScope s_is_count) := ⟨rfl, rfl, rfl, by decide +kernel, rfl, by decide +kernel, by decide +kernel⟩
abbrev s_is_zone : Stmt := (topS 27)
theorem sc_is_zone : FnScope ["zone"] ["zone"] (defScope s_is_zone) := ⟨rfl, rfl, rfl, by decide +kernel, rfl, by decide +kernel, by decide +kernel⟩
abbrev s_is_key : Stmt := (topS 28)
theorem sc_is_key : FnScope ["kind", "name"] ["kind", "name"] (defScope s_is_key) := ⟨rfl, rfl, rfl, by decide +kernel, rfl, by decide +kernel, by decide +kernel⟩
abbrev s__is_beat : Stmt := (topS 29)
theorem sc__is_beat : FnScope ["value"] ["value"] (defScope s__is_beat) := ⟨rfl, rfl, rfl, by decide +kernel, rfl, by decide +kernel, by decide +kernel⟩
abbrev s__is_drain : Stmt := (topS 30)
theorem sc__is_drain : FnScope ["value"] ["value"] (defScope s__is_drain) := ⟨rfl, rfl, rfl, by decide +kernel, rfl, by decide +kernel, by decide +kernel⟩
abbrev s__is_node : Stmt := (topS 31)
theorem sc__is_node : FnScope ["value", "size", "used", "life", "lost", "zone"] ["value"] (defScope s__is_node) := ⟨rfl, rfl, rfl, by decide +kernel, rfl, by decide +kernel, by decide +kernel⟩
abbrev s__is_note : Stmt := (topS 32)
theorem sc__is_note : FnScope ["value", "text", "owner_kind", "owner_name", "owner_born"] ["value"] (defScope s__is_note) := ⟨rfl, rfl, rfl, by decide +kernel, rfl, by decide +kernel, by decide +kernel⟩
abbrev s__is_rollout : Stmt := (topS 33)
theorem sc__is_rollout : FnScope ["value"] ["value"] (defScope s__is_rollout) := ⟨rfl, rfl, rfl, by decide +kernel, rfl, by decide +kernel, by decide +kernel⟩
abbrev s__are_open_numbers : Stmt := (topS 34)
theorem sc__are_open_numbers : FnScope ["numbers", "least", "number"] ["numbers"] (defScope s__are_open_numbers) := ⟨rfl, rfl, rfl, by decide +kernel, rfl, by decide +kernel, by decide +kernel⟩
abbrev s__is_service : Stmt := (topS 35)
theorem sc__is_service : FnScope ["value", "count", "text", "size", "gone", "zone"] ["value"] (defScope s__is_service) := ⟨rfl, rfl, rfl, by decide +kernel, rfl, by decide +kernel, by decide +kernel⟩
abbrev s__is_task : Stmt := (topS 36)
theorem sc__is_task : FnScope ["value", "service_born", "text", "size", "state", "stop", "node", "life", "zone"] ["value"] (defScope s__is_task) := ⟨rfl, rfl, rfl, by decide +kernel, rfl, by decide +kernel, by decide +kernel⟩
abbrev s_is_object : Stmt := (topS 38)
theorem sc_is_object : FnScope ["kind", "name", "value", "has_form"] ["kind", "name", "value"] (defScope s_is_object) := ⟨rfl, rfl, rfl, by decide +kernel, rfl, by decide +kernel, by decide +kernel⟩
abbrev s__is_tuple_of : Stmt := (topS 39)
theorem sc__is_tuple_of : FnScope ["value", "size"] ["value", "size"] (defScope s__is_tuple_of) := ⟨rfl, rfl, rfl, by decide +kernel, rfl, by decide +kernel, by decide +kernel⟩
abbrev s__is_condition : Stmt := (topS 40)
theorem sc__is_condition : FnScope ["condition"] ["condition"] (defScope s__is_condition) := ⟨rfl, rfl, rfl, by decide +kernel, rfl, by decide +kernel, by decide +kernel⟩
abbrev s__is_put : Stmt := (topS 41)
theorem sc__is_put : FnScope ["put"] ["put"] (defScope s__is_put) := ⟨rfl, rfl, rfl, by decide +kernel, rfl, by decide +kernel, by decide +kernel⟩
abbrev s__is_delete : Stmt := (topS 42)
theorem sc__is_delete : FnScope ["delete"] ["delete"] (defScope s__is_delete) := ⟨rfl, rfl, rfl, by decide +kernel, rfl, by decide +kernel, by decide +kernel⟩
abbrev s__are_distinct : Stmt := (topS 43)
theorem sc__are_distinct : FnScope ["keys", "seen", "key"] ["keys"] (defScope s__are_distinct) := ⟨rfl, rfl, rfl, by decide +kernel, rfl, by decide +kernel, by decide +kernel⟩
abbrev s_check_transaction : Stmt := (topS 44)
theorem sc_check_transaction : FnScope ["transaction", "part", "conditions", "puts", "deletes", "condition", "put", "delete"] ["transaction"] (defScope s_check_transaction) := ⟨rfl, rfl, rfl, by decide +kernel, rfl, by decide +kernel, by decide +kernel⟩
abbrev s__sorted_by_key : Stmt := (topS 46)
theorem sc__sorted_by_key : FnScope ["members"] ["members"] (defScope s__sorted_by_key) := ⟨rfl, rfl, rfl, by decide +kernel, rfl, by decide +kernel, by decide +kernel⟩
abbrev s_Store___init__ : Stmt := (inClass (topS 47) 0)
theorem sc_Store___init__ : FnScope ["self"] ["self"] (defScope s_Store___init__) := ⟨rfl, rfl, rfl, by decide +kernel, rfl, by decide +kernel, by decide +kernel⟩
abbrev s_Store_entry : Stmt := (inClass (topS 47) 1)
theorem sc_Store_entry : FnScope ["self", "kind", "name"] ["self", "kind", "name"] (defScope s_Store_entry) := ⟨rfl, rfl, rfl, by decide +kernel, rfl, by decide +kernel, by decide +kernel⟩
abbrev s_Store_entries : Stmt := (inClass (topS 47) 2)
theorem sc_Store_entries : FnScope ["self", "key"] ["self"] (defScope s_Store_entries) := ⟨rfl, rfl, rfl, by decide +kernel, rfl, by decide +kernel, by decide +kernel⟩
abbrev s_Store_apply : Stmt := (inClass (topS 47) 3)
theorem sc_Store_apply : FnScope ["self", "transaction", "conditions", "puts", "deletes", "holds", "kind", "name", "revision", "key"] ["self", "transaction"] (defScope s_Store_apply) := ⟨rfl, rfl, rfl, by decide +kernel, rfl, by decide +kernel, by decide +kernel⟩
abbrev s_Store__holds : Stmt := (inClass (topS 47) 4)
theorem sc_Store__holds : FnScope ["self", "kind", "name", "revision", "entry"] ["self", "kind", "name", "revision"] (defScope s_Store__holds) := ⟨rfl, rfl, rfl, by decide +kernel, rfl, by decide +kernel, by decide +kernel⟩
abbrev s_Store__change : Stmt := (inClass (topS 47) 5)
theorem sc_Store__change : FnScope ["self", "puts", "deletes", "kind", "name", "value", "entry", "born", "key"] ["self", "puts", "deletes"] (defScope s_Store__change) := ⟨rfl, rfl, rfl, by decide +kernel, rfl, by decide +kernel, by decide +kernel⟩
abbrev s_Store_image : Stmt := (inClass (topS 47) 8)
theorem sc_Store_image : FnScope ["self"] ["self"] (defScope s_Store_image) := ⟨rfl, rfl, rfl, by decide +kernel, rfl, by decide +kernel, by decide +kernel⟩
abbrev s_Store_from_image : Stmt := (inClass (topS 47) 9)
theorem sc_Store_from_image : FnScope ["image", "store", "entries", "kind", "name", "born", "revision", "value"] ["image"] (defScope s_Store_from_image) := ⟨rfl, rfl, rfl, by decide +kernel, rfl, by decide +kernel, by decide +kernel⟩
abbrev s__law_is_integer : Stmt := (topS 49)
theorem sc__law_is_integer : FnScope ["actual"] ["actual"] (defScope s__law_is_integer) := ⟨rfl, rfl, rfl, by decide +kernel, rfl, by decide +kernel, by decide +kernel⟩
abbrev s__law_draws : Stmt := (topS 50)
theorem sc__law_draws : FnScope ["script", "many", "draws", "mixed", "k", "cell", "rest", "turn"] ["script", "many"] (defScope s__law_draws) := ⟨rfl, rfl, rfl, by decide +kernel, rfl, by decide +kernel, by decide +kernel⟩
abbrev s__law_name : Stmt := (topS 51)
theorem sc__law_name : FnScope ["draws", "letters", "size", "k"] ["draws"] (defScope s__law_name) := ⟨rfl, rfl, rfl, by decide +kernel, rfl, by decide +kernel, by decide +kernel⟩
abbrev s__law_text : Stmt := (topS 52)
theorem sc__law_text : FnScope ["draws", "chars", "size", "k"] ["draws"] (defScope s__law_text) := ⟨rfl, rfl, rfl, by decide +kernel, rfl, by decide +kernel, by decide +kernel⟩
abbrev s__law_zone : Stmt := (topS 53)
theorem sc__law_zone : FnScope ["draws"] ["draws"] (defScope s__law_zone) := ⟨rfl, rfl, rfl, by decide +kernel, rfl, by decide +kernel, by decide +kernel⟩
abbrev s__law_open : Stmt := (topS 54)
theorem sc__law_open : FnScope ["draw", "numbers", "rest", "k"] ["draw"] (defScope s__law_open) := ⟨rfl, rfl, rfl, by decide +kernel, rfl, by decide +kernel, by decide +kernel⟩
abbrev s__law_key : Stmt := (topS 55)
theorem sc__law_key : FnScope ["draws", "kind", "name"] ["draws"] (defScope s__law_key) := ⟨rfl, rfl, rfl, by decide +kernel, rfl, by decide +kernel, by decide +kernel⟩
abbrev s__law_worth : Stmt := (topS 56)
theorem sc__law_worth : FnScope ["kind", "draws", "text", "state"] ["kind", "draws"] (defScope s__law_worth) := ⟨rfl, rfl, rfl, by decide +kernel, rfl, by decide +kernel, by decide +kernel⟩
abbrev s__law_find : Stmt := (topS 57)
theorem sc__law_find : FnScope ["entries", "kind", "name", "entry"] ["entries", "kind", "name"] (defScope s__law_find) := ⟨rfl, rfl, rfl, by decide +kernel, rfl, by decide +kernel, by decide +kernel⟩
abbrev s__law_less : Stmt := (topS 58)
theorem sc__law_less : FnScope ["one", "two"] ["one", "two"] (defScope s__law_less) := ⟨rfl, rfl, rfl, by decide +kernel, rfl, by decide +kernel, by decide +kernel⟩
abbrev s__law_placed : Stmt := (topS 59)
theorem sc__law_placed : FnScope ["entries", "entry", "before", "after", "one"] ["entries", "entry"] (defScope s__law_placed) := ⟨rfl, rfl, rfl, by decide +kernel, rfl, by decide +kernel, by decide +kernel⟩
abbrev s__law_failing : Stmt := (topS 60)
theorem sc__law_failing : FnScope ["entries", "transaction", "index", "kind", "name", "revision", "found"] ["entries", "transaction"] (defScope s__law_failing) := ⟨rfl, rfl, rfl, by decide +kernel, rfl, by decide +kernel, by decide +kernel⟩
abbrev s__law_done : Stmt := (topS 61)
theorem sc__law_done : FnScope ["entries", "revision", "transaction", "kind", "name", "value", "found", "born", "one"] ["entries", "revision", "transaction"] (defScope s__law_done) := ⟨rfl, rfl, rfl, by decide +kernel, rfl, by decide +kernel, by decide +kernel⟩
abbrev s__law_transaction : Stmt := (topS 63)
theorem sc__law_transaction : FnScope ["entries", "draws", "puts", "deletes", "keys", "k", "part", "kind", "name", "conditions", "found", "revision"] ["entries", "draws"] (defScope s__law_transaction) := ⟨rfl, rfl, rfl, by decide +kernel, rfl, by decide +kernel, by decide +kernel⟩
abbrev s__law_same : Stmt := (topS 64)
theorem sc__law_same : FnScope ["actual", "expected", "k"] ["actual", "expected"] (defScope s__law_same) := ⟨rfl, rfl, rfl, by decide +kernel, rfl, by decide +kernel, by decide +kernel⟩
abbrev s__law_same_entries : Stmt := (topS 65)
theorem sc__law_same_entries : FnScope ["actual", "entries", "k"] ["actual", "entries"] (defScope s__law_same_entries) := ⟨rfl, rfl, rfl, by decide +kernel, rfl, by decide +kernel, by decide +kernel⟩
abbrev s__law_kept : Stmt := (topS 66)
theorem sc__law_kept : FnScope ["kept", "origin", "one"] ["kept", "origin"] (defScope s__law_kept) := ⟨rfl, rfl, rfl, by decide +kernel, rfl, by decide +kernel, by decide +kernel⟩
abbrev s__law_keep : Stmt := (topS 67)
theorem sc__law_keep : FnScope ["kept", "entry", "before", "after", "one"] ["kept", "entry"] (defScope s__law_keep) := ⟨rfl, rfl, rfl, by decide +kernel, rfl, by decide +kernel, by decide +kernel⟩
abbrev s__law_expected : Stmt := (topS 68)
theorem sc__law_expected : FnScope ["state", "command", "origin", "number", "transaction", "entries", "revision", "kept", "last", "index", "answer"] ["state", "command"] (defScope s__law_expected) := ⟨rfl, rfl, rfl, by decide +kernel, rfl, by decide +kernel, by decide +kernel⟩
abbrev s__law_asks : Stmt := (topS 69)
theorem sc__law_asks : FnScope ["sessions", "kept", "origin", "last"] ["sessions", "kept"] (defScope s__law_asks) := ⟨rfl, rfl, rfl, by decide +kernel, rfl, by decide +kernel, by decide +kernel⟩
abbrev s_law : Stmt := (topS 70)
theorem sc_law : FnScope ["script", "draws", "sessions", "store", "state", "turn", "part", "origin", "number", "command", "expected"] ["script"] (defScope s_law) := ⟨rfl, rfl, rfl, by decide +kernel, rfl, by decide +kernel, by decide +kernel⟩

structure TX (K : PySem.W.Frag) (mg : Str → Option Value) (w : World) where
  a_Sessions : Addr
  a_MajordomoError : Addr
  g_MajordomoError : mg "MajordomoError" = some (.ref a_MajordomoError)
  x_MajordomoError : PySem.W.excIn K a_MajordomoError [.type "ValueError", .type "Exception", .type "BaseException", .type "object"] "ValueError.__new__" = true
  k_MajordomoError : PySem.W.keepIn K (.ref a_MajordomoError) = true
  s_MajordomoError : PySem.W.subIn K (.ref a_MajordomoError) (.type "BaseException") = some true
  t_MajordomoError : PySem.W.typeIn K (.ref a_MajordomoError) = some (.type "type")
  a_StoreError : Addr
  g_StoreError : mg "StoreError" = some (.ref a_StoreError)
  x_StoreError : PySem.W.excIn K a_StoreError [.type "ValueError", .type "Exception", .type "BaseException", .type "object"] "ValueError.__new__" = true
  k_StoreError : PySem.W.keepIn K (.ref a_StoreError) = true
  s_StoreError : PySem.W.subIn K (.ref a_StoreError) (.type "BaseException") = some true
  t_StoreError : PySem.W.typeIn K (.ref a_StoreError) = some (.type "type")
  a_BadTransaction : Addr
  g_BadTransaction : mg "BadTransaction" = some (.ref a_BadTransaction)
  x_BadTransaction : PySem.W.excIn K a_BadTransaction [.type "ValueError", .type "Exception", .type "BaseException", .type "object"] "ValueError.__new__" = true
  k_BadTransaction : PySem.W.keepIn K (.ref a_BadTransaction) = true
  s_BadTransaction : PySem.W.subIn K (.ref a_BadTransaction) (.type "BaseException") = some true
  t_BadTransaction : PySem.W.typeIn K (.ref a_BadTransaction) = some (.type "type")
  a_Store : Addr
  a_Sessions___init__ : Addr
  d_Sessions___init__ : FuncData
  F_Sessions___init__ : Fun K "__init__" "Sessions.__init__" s_Sessions___init__ a_Sessions___init__ d_Sessions___init__
  b_Sessions___init__ : Binds K d_Sessions___init__ ["self"] []
  a_Sessions_run : Addr
  d_Sessions_run : FuncData
  F_Sessions_run : Fun K "run" "Sessions.run" s_Sessions_run a_Sessions_run d_Sessions_run
  b_Sessions_run : Binds K d_Sessions_run ["self", "store", "command"] []
  m_Sessions_run : Meth K a_Sessions "run" a_Sessions_run
  a_Sessions_answer : Addr
  d_Sessions_answer : FuncData
  F_Sessions_answer : Fun K "answer" "Sessions.answer" s_Sessions_answer a_Sessions_answer d_Sessions_answer
  b_Sessions_answer : Binds K d_Sessions_answer ["self", "origin", "number"] []
  m_Sessions_answer : Meth K a_Sessions "answer" a_Sessions_answer
  a_Sessions_last : Addr
  d_Sessions_last : FuncData
  F_Sessions_last : Fun K "last" "Sessions.last" s_Sessions_last a_Sessions_last d_Sessions_last
  b_Sessions_last : Binds K d_Sessions_last ["self", "origin"] []
  m_Sessions_last : Meth K a_Sessions "last" a_Sessions_last
  a_Sessions_image : Addr
  d_Sessions_image : FuncData
  F_Sessions_image : Fun K "image" "Sessions.image" s_Sessions_image a_Sessions_image d_Sessions_image
  b_Sessions_image : Binds K d_Sessions_image ["self"] []
  m_Sessions_image : Meth K a_Sessions "image" a_Sessions_image
  a_Sessions_from_image : Addr
  d_Sessions_from_image : FuncData
  F_Sessions_from_image : Fun K "from_image" "Sessions.from_image" s_Sessions_from_image a_Sessions_from_image d_Sessions_from_image
  b_Sessions_from_image : Binds K d_Sessions_from_image ["image"] []
  sp_Sessions_from_image : Addr
  st_Sessions_from_image : SMet K a_Sessions (.type "type") "from_image" sp_Sessions_from_image a_Sessions_from_image
  a_has_plain_characters : Addr
  d_has_plain_characters : FuncData
  F_has_plain_characters : Fun K "has_plain_characters" "has_plain_characters" s_has_plain_characters a_has_plain_characters d_has_plain_characters
  b_has_plain_characters : Binds K d_has_plain_characters ["text"] []
  g_has_plain_characters : mg "has_plain_characters" = some (.ref a_has_plain_characters)
  a_is_integer_within : Addr
  d_is_integer_within : FuncData
  F_is_integer_within : Fun K "is_integer_within" "is_integer_within" s_is_integer_within a_is_integer_within d_is_integer_within
  b_is_integer_within : Binds K d_is_integer_within ["number", "low", "high"] []
  g_is_integer_within : mg "is_integer_within" = some (.ref a_is_integer_within)
  a_is_plain_name : Addr
  d_is_plain_name : FuncData
  F_is_plain_name : Fun K "is_plain_name" "is_plain_name" s_is_plain_name a_is_plain_name d_is_plain_name
  b_is_plain_name : Binds K d_is_plain_name ["name"] []
  g_is_plain_name : mg "is_plain_name" = some (.ref a_is_plain_name)
  a_is_slot_name : Addr
  d_is_slot_name : FuncData
  F_is_slot_name : Fun K "is_slot_name" "is_slot_name" s_is_slot_name a_is_slot_name d_is_slot_name
  b_is_slot_name : Binds K d_is_slot_name ["name"] []
  g_is_slot_name : mg "is_slot_name" = some (.ref a_is_slot_name)
  a_is_text : Addr
  d_is_text : FuncData
  F_is_text : Fun K "is_text" "is_text" s_is_text a_is_text d_is_text
  b_is_text : Binds K d_is_text ["text"] []
  g_is_text : mg "is_text" = some (.ref a_is_text)
  a_is_count : Addr
  d_is_count : FuncData
  F_is_count : Fun K "is_count" "is_count" s_is_count a_is_count d_is_count
  b_is_count : Binds K d_is_count ["number"] []
  g_is_count : mg "is_count" = some (.ref a_is_count)
  a_is_zone : Addr
  d_is_zone : FuncData
  F_is_zone : Fun K "is_zone" "is_zone" s_is_zone a_is_zone d_is_zone
  b_is_zone : Binds K d_is_zone ["zone"] []
  g_is_zone : mg "is_zone" = some (.ref a_is_zone)
  a_is_key : Addr
  d_is_key : FuncData
  F_is_key : Fun K "is_key" "is_key" s_is_key a_is_key d_is_key
  b_is_key : Binds K d_is_key ["kind", "name"] []
  g_is_key : mg "is_key" = some (.ref a_is_key)
  a__is_beat : Addr
  d__is_beat : FuncData
  F__is_beat : Fun K "_is_beat" "_is_beat" s__is_beat a__is_beat d__is_beat
  b__is_beat : Binds K d__is_beat ["value"] []
  g__is_beat : mg "_is_beat" = some (.ref a__is_beat)
  a__is_drain : Addr
  d__is_drain : FuncData
  F__is_drain : Fun K "_is_drain" "_is_drain" s__is_drain a__is_drain d__is_drain
  b__is_drain : Binds K d__is_drain ["value"] []
  g__is_drain : mg "_is_drain" = some (.ref a__is_drain)
  a__is_node : Addr
  d__is_node : FuncData
  F__is_node : Fun K "_is_node" "_is_node" s__is_node a__is_node d__is_node
  b__is_node : Binds K d__is_node ["value"] []
  g__is_node : mg "_is_node" = some (.ref a__is_node)
  a__is_note : Addr
  d__is_note : FuncData
  F__is_note : Fun K "_is_note" "_is_note" s__is_note a__is_note d__is_note
  b__is_note : Binds K d__is_note ["value"] []
  g__is_note : mg "_is_note" = some (.ref a__is_note)
  a__is_rollout : Addr
  d__is_rollout : FuncData
  F__is_rollout : Fun K "_is_rollout" "_is_rollout" s__is_rollout a__is_rollout d__is_rollout
  b__is_rollout : Binds K d__is_rollout ["value"] []
  g__is_rollout : mg "_is_rollout" = some (.ref a__is_rollout)
  a__are_open_numbers : Addr
  d__are_open_numbers : FuncData
  F__are_open_numbers : Fun K "_are_open_numbers" "_are_open_numbers" s__are_open_numbers a__are_open_numbers d__are_open_numbers
  b__are_open_numbers : Binds K d__are_open_numbers ["numbers"] []
  g__are_open_numbers : mg "_are_open_numbers" = some (.ref a__are_open_numbers)
  a__is_service : Addr
  d__is_service : FuncData
  F__is_service : Fun K "_is_service" "_is_service" s__is_service a__is_service d__is_service
  b__is_service : Binds K d__is_service ["value"] []
  g__is_service : mg "_is_service" = some (.ref a__is_service)
  a__is_task : Addr
  d__is_task : FuncData
  F__is_task : Fun K "_is_task" "_is_task" s__is_task a__is_task d__is_task
  b__is_task : Binds K d__is_task ["value"] []
  g__is_task : mg "_is_task" = some (.ref a__is_task)
  a_is_object : Addr
  d_is_object : FuncData
  F_is_object : Fun K "is_object" "is_object" s_is_object a_is_object d_is_object
  b_is_object : Binds K d_is_object ["kind", "name", "value"] []
  g_is_object : mg "is_object" = some (.ref a_is_object)
  a__is_tuple_of : Addr
  d__is_tuple_of : FuncData
  F__is_tuple_of : Fun K "_is_tuple_of" "_is_tuple_of" s__is_tuple_of a__is_tuple_of d__is_tuple_of
  b__is_tuple_of : Binds K d__is_tuple_of ["value", "size"] []
  g__is_tuple_of : mg "_is_tuple_of" = some (.ref a__is_tuple_of)
  a__is_condition : Addr
  d__is_condition : FuncData
  F__is_condition : Fun K "_is_condition" "_is_condition" s__is_condition a__is_condition d__is_condition
  b__is_condition : Binds K d__is_condition ["condition"] []
  g__is_condition : mg "_is_condition" = some (.ref a__is_condition)
  a__is_put : Addr
  d__is_put : FuncData
  F__is_put : Fun K "_is_put" "_is_put" s__is_put a__is_put d__is_put
  b__is_put : Binds K d__is_put ["put"] []
  g__is_put : mg "_is_put" = some (.ref a__is_put)
  a__is_delete : Addr
  d__is_delete : FuncData
  F__is_delete : Fun K "_is_delete" "_is_delete" s__is_delete a__is_delete d__is_delete
  b__is_delete : Binds K d__is_delete ["delete"] []
  g__is_delete : mg "_is_delete" = some (.ref a__is_delete)
  a__are_distinct : Addr
  d__are_distinct : FuncData
  F__are_distinct : Fun K "_are_distinct" "_are_distinct" s__are_distinct a__are_distinct d__are_distinct
  b__are_distinct : Binds K d__are_distinct ["keys"] []
  g__are_distinct : mg "_are_distinct" = some (.ref a__are_distinct)
  a_check_transaction : Addr
  d_check_transaction : FuncData
  F_check_transaction : Fun K "check_transaction" "check_transaction" s_check_transaction a_check_transaction d_check_transaction
  b_check_transaction : Binds K d_check_transaction ["transaction"] []
  g_check_transaction : mg "check_transaction" = some (.ref a_check_transaction)
  a__sorted_by_key : Addr
  d__sorted_by_key : FuncData
  cc__sorted_by_key : Addr
  pp__sorted_by_key : Addr
  hc__sorted_by_key : d__sorted_by_key.code = .ref cc__sorted_by_key
  F__sorted_by_key : Fun K "_sorted_by_key" "_sorted_by_key" s__sorted_by_key a__sorted_by_key d__sorted_by_key
  b__sorted_by_key : Binds K d__sorted_by_key ["members"] []
  g__sorted_by_key : mg "_sorted_by_key" = some (.ref a__sorted_by_key)
  a_Store___init__ : Addr
  d_Store___init__ : FuncData
  F_Store___init__ : Fun K "__init__" "Store.__init__" s_Store___init__ a_Store___init__ d_Store___init__
  b_Store___init__ : Binds K d_Store___init__ ["self"] []
  a_Store_entry : Addr
  d_Store_entry : FuncData
  F_Store_entry : Fun K "entry" "Store.entry" s_Store_entry a_Store_entry d_Store_entry
  b_Store_entry : Binds K d_Store_entry ["self", "kind", "name"] []
  m_Store_entry : Meth K a_Store "entry" a_Store_entry
  a_Store_entries : Addr
  d_Store_entries : FuncData
  F_Store_entries : Fun K "entries" "Store.entries" s_Store_entries a_Store_entries d_Store_entries
  b_Store_entries : Binds K d_Store_entries ["self"] []
  m_Store_entries : Meth K a_Store "entries" a_Store_entries
  a_Store_apply : Addr
  d_Store_apply : FuncData
  F_Store_apply : Fun K "apply" "Store.apply" s_Store_apply a_Store_apply d_Store_apply
  b_Store_apply : Binds K d_Store_apply ["self", "transaction"] []
  m_Store_apply : Meth K a_Store "apply" a_Store_apply
  a_Store__holds : Addr
  d_Store__holds : FuncData
  F_Store__holds : Fun K "_holds" "Store._holds" s_Store__holds a_Store__holds d_Store__holds
  b_Store__holds : Binds K d_Store__holds ["self", "kind", "name", "revision"] []
  m_Store__holds : Meth K a_Store "_holds" a_Store__holds
  a_Store__change : Addr
  d_Store__change : FuncData
  F_Store__change : Fun K "_change" "Store._change" s_Store__change a_Store__change d_Store__change
  b_Store__change : Binds K d_Store__change ["self", "puts", "deletes"] []
  m_Store__change : Meth K a_Store "_change" a_Store__change
  a_Store_image : Addr
  d_Store_image : FuncData
  F_Store_image : Fun K "image" "Store.image" s_Store_image a_Store_image d_Store_image
  b_Store_image : Binds K d_Store_image ["self"] []
  m_Store_image : Meth K a_Store "image" a_Store_image
  a_Store_from_image : Addr
  d_Store_from_image : FuncData
  F_Store_from_image : Fun K "from_image" "Store.from_image" s_Store_from_image a_Store_from_image d_Store_from_image
  b_Store_from_image : Binds K d_Store_from_image ["image"] []
  sp_Store_from_image : Addr
  st_Store_from_image : SMet K a_Store (.type "type") "from_image" sp_Store_from_image a_Store_from_image
  a__law_is_integer : Addr
  d__law_is_integer : FuncData
  F__law_is_integer : Fun K "_law_is_integer" "_law_is_integer" s__law_is_integer a__law_is_integer d__law_is_integer
  b__law_is_integer : Binds K d__law_is_integer ["actual"] []
  g__law_is_integer : mg "_law_is_integer" = some (.ref a__law_is_integer)
  a__law_draws : Addr
  d__law_draws : FuncData
  F__law_draws : Fun K "_law_draws" "_law_draws" s__law_draws a__law_draws d__law_draws
  b__law_draws : Binds K d__law_draws ["script", "many"] []
  g__law_draws : mg "_law_draws" = some (.ref a__law_draws)
  a__law_name : Addr
  d__law_name : FuncData
  F__law_name : Fun K "_law_name" "_law_name" s__law_name a__law_name d__law_name
  b__law_name : Binds K d__law_name ["draws"] []
  g__law_name : mg "_law_name" = some (.ref a__law_name)
  a__law_text : Addr
  d__law_text : FuncData
  F__law_text : Fun K "_law_text" "_law_text" s__law_text a__law_text d__law_text
  b__law_text : Binds K d__law_text ["draws"] []
  g__law_text : mg "_law_text" = some (.ref a__law_text)
  a__law_zone : Addr
  d__law_zone : FuncData
  F__law_zone : Fun K "_law_zone" "_law_zone" s__law_zone a__law_zone d__law_zone
  b__law_zone : Binds K d__law_zone ["draws"] []
  g__law_zone : mg "_law_zone" = some (.ref a__law_zone)
  a__law_open : Addr
  d__law_open : FuncData
  F__law_open : Fun K "_law_open" "_law_open" s__law_open a__law_open d__law_open
  b__law_open : Binds K d__law_open ["draw"] []
  g__law_open : mg "_law_open" = some (.ref a__law_open)
  a__law_key : Addr
  d__law_key : FuncData
  F__law_key : Fun K "_law_key" "_law_key" s__law_key a__law_key d__law_key
  b__law_key : Binds K d__law_key ["draws"] []
  g__law_key : mg "_law_key" = some (.ref a__law_key)
  a__law_worth : Addr
  d__law_worth : FuncData
  F__law_worth : Fun K "_law_worth" "_law_worth" s__law_worth a__law_worth d__law_worth
  b__law_worth : Binds K d__law_worth ["kind", "draws"] []
  g__law_worth : mg "_law_worth" = some (.ref a__law_worth)
  a__law_find : Addr
  d__law_find : FuncData
  F__law_find : Fun K "_law_find" "_law_find" s__law_find a__law_find d__law_find
  b__law_find : Binds K d__law_find ["entries", "kind", "name"] []
  g__law_find : mg "_law_find" = some (.ref a__law_find)
  a__law_less : Addr
  d__law_less : FuncData
  F__law_less : Fun K "_law_less" "_law_less" s__law_less a__law_less d__law_less
  b__law_less : Binds K d__law_less ["one", "two"] []
  g__law_less : mg "_law_less" = some (.ref a__law_less)
  a__law_placed : Addr
  d__law_placed : FuncData
  F__law_placed : Fun K "_law_placed" "_law_placed" s__law_placed a__law_placed d__law_placed
  b__law_placed : Binds K d__law_placed ["entries", "entry"] []
  g__law_placed : mg "_law_placed" = some (.ref a__law_placed)
  a__law_failing : Addr
  d__law_failing : FuncData
  F__law_failing : Fun K "_law_failing" "_law_failing" s__law_failing a__law_failing d__law_failing
  b__law_failing : Binds K d__law_failing ["entries", "transaction"] []
  g__law_failing : mg "_law_failing" = some (.ref a__law_failing)
  a__law_done : Addr
  d__law_done : FuncData
  F__law_done : Fun K "_law_done" "_law_done" s__law_done a__law_done d__law_done
  b__law_done : Binds K d__law_done ["entries", "revision", "transaction"] []
  g__law_done : mg "_law_done" = some (.ref a__law_done)
  a__law_transaction : Addr
  d__law_transaction : FuncData
  F__law_transaction : Fun K "_law_transaction" "_law_transaction" s__law_transaction a__law_transaction d__law_transaction
  b__law_transaction : Binds K d__law_transaction ["entries", "draws"] []
  g__law_transaction : mg "_law_transaction" = some (.ref a__law_transaction)
  a__law_same : Addr
  d__law_same : FuncData
  F__law_same : Fun K "_law_same" "_law_same" s__law_same a__law_same d__law_same
  b__law_same : Binds K d__law_same ["actual", "expected"] []
  g__law_same : mg "_law_same" = some (.ref a__law_same)
  a__law_same_entries : Addr
  d__law_same_entries : FuncData
  F__law_same_entries : Fun K "_law_same_entries" "_law_same_entries" s__law_same_entries a__law_same_entries d__law_same_entries
  b__law_same_entries : Binds K d__law_same_entries ["actual", "entries"] []
  g__law_same_entries : mg "_law_same_entries" = some (.ref a__law_same_entries)
  a__law_kept : Addr
  d__law_kept : FuncData
  F__law_kept : Fun K "_law_kept" "_law_kept" s__law_kept a__law_kept d__law_kept
  b__law_kept : Binds K d__law_kept ["kept", "origin"] []
  g__law_kept : mg "_law_kept" = some (.ref a__law_kept)
  a__law_keep : Addr
  d__law_keep : FuncData
  F__law_keep : Fun K "_law_keep" "_law_keep" s__law_keep a__law_keep d__law_keep
  b__law_keep : Binds K d__law_keep ["kept", "entry"] []
  g__law_keep : mg "_law_keep" = some (.ref a__law_keep)
  a__law_expected : Addr
  d__law_expected : FuncData
  F__law_expected : Fun K "_law_expected" "_law_expected" s__law_expected a__law_expected d__law_expected
  b__law_expected : Binds K d__law_expected ["state", "command"] []
  g__law_expected : mg "_law_expected" = some (.ref a__law_expected)
  a__law_asks : Addr
  d__law_asks : FuncData
  F__law_asks : Fun K "_law_asks" "_law_asks" s__law_asks a__law_asks d__law_asks
  b__law_asks : Binds K d__law_asks ["sessions", "kept"] []
  g__law_asks : mg "_law_asks" = some (.ref a__law_asks)
  a_law : Addr
  d_law : FuncData
  F_law : Fun K "law" "law" s_law a_law d_law
  b_law : Binds K d_law ["script"] []
  g_law : mg "law" = some (.ref a_law)
  K_Sessions : Cls K a_Sessions
  g_Sessions : mg "Sessions" = some (.ref a_Sessions)
  M_Sessions : Mk K a_Sessions a_Sessions___init__
  na_Sessions__kept : NoAttr K a_Sessions "_kept"
  K_Store : Cls K a_Store
  g_Store : mg "Store" = some (.ref a_Store)
  M_Store : Mk K a_Store a_Store___init__
  na_Store_revision : NoAttr K a_Store "revision"
  na_Store_oldest : NoAttr K a_Store "oldest"
  na_Store__table : NoAttr K a_Store "_table"
  na_Store__changes : NoAttr K a_Store "_changes"
  t_SPACE : Tok
  c_SPACE : mg "SPACE" = some (.int 32 t_SPACE)
  t_PERCENT : Tok
  c_PERCENT : mg "PERCENT" = some (.int 37 t_PERCENT)
  t_TILDE : Tok
  c_TILDE : mg "TILDE" = some (.int 126 t_TILDE)
  t_DIGITS : Tok
  c_DIGITS : mg "DIGITS" = some (.str "0123456789" t_DIGITS)
  ca_KINDS : Addr
  c_KINDS : mg "KINDS" = some (.ref ca_KINDS)
  q_KINDS : ∀ H, SqT K H ca_KINDS [(.str "beat"), (.str "drain"), (.str "node"), (.str "note"), (.str "rollout"), (.str "service"), (.str "task")]
  ca_STATES : Addr
  c_STATES : mg "STATES" = some (.ref ca_STATES)
  q_STATES : ∀ H, SqT K H ca_STATES [(.str "new"), (.str "bound"), (.str "running"), (.str "ended")]
  t_NAME_CHARACTERS : Tok
  c_NAME_CHARACTERS : mg "NAME_CHARACTERS" = some (.str "abcdefghijklmnopqrstuvwxyz0123456789" t_NAME_CHARACTERS)
  t_MOST_NAME : Tok
  c_MOST_NAME : mg "MOST_NAME" = some (.int 12 t_MOST_NAME)
  t_MOST_TEXT : Tok
  c_MOST_TEXT : mg "MOST_TEXT" = some (.int 40 t_MOST_TEXT)
  t_MOST_COUNT : Tok
  c_MOST_COUNT : mg "MOST_COUNT" = some (.int 1000000000000 t_MOST_COUNT)
  t_MOST_NUMBER : Tok
  c_MOST_NUMBER : mg "MOST_NUMBER" = some (.int 9 t_MOST_NUMBER)
  t_MOST_MEMBERS : Tok
  c_MOST_MEMBERS : mg "MOST_MEMBERS" = some (.int 12 t_MOST_MEMBERS)
  ca_VALUE_FORMS : Addr
  c_VALUE_FORMS : mg "VALUE_FORMS" = some (.ref ca_VALUE_FORMS)
  de_VALUE_FORMS : Array DictEntry
  dn_VALUE_FORMS : Nat
  D_VALUE_FORMS : KDict K w ca_VALUE_FORMS de_VALUE_FORMS dn_VALUE_FORMS
  j_VALUE_FORMS_beat : PySem.W.nsIn K ca_VALUE_FORMS "beat" = some (some (.ref a__is_beat))
  j_VALUE_FORMS_drain : PySem.W.nsIn K ca_VALUE_FORMS "drain" = some (some (.ref a__is_drain))
  j_VALUE_FORMS_node : PySem.W.nsIn K ca_VALUE_FORMS "node" = some (some (.ref a__is_node))
  j_VALUE_FORMS_note : PySem.W.nsIn K ca_VALUE_FORMS "note" = some (some (.ref a__is_note))
  j_VALUE_FORMS_rollout : PySem.W.nsIn K ca_VALUE_FORMS "rollout" = some (some (.ref a__is_rollout))
  j_VALUE_FORMS_service : PySem.W.nsIn K ca_VALUE_FORMS "service" = some (some (.ref a__is_service))
  j_VALUE_FORMS_task : PySem.W.nsIn K ca_VALUE_FORMS "task" = some (some (.ref a__is_task))
  n_isinstance : mg "isinstance" = none
  n_int : mg "int" = none
  n_bool : mg "bool" = none
  n_len : mg "len" = none
  n_str : mg "str" = none
  n_all : mg "all" = none
  n_ord : mg "ord" = none
  n_tuple : mg "tuple" = none
  n_list : mg "list" = none
  n_sorted : mg "sorted" = none
  n_range : mg "range" = none
  n_abs : mg "abs" = none
  n_max : mg "max" = none

theorem ne_Sessions_run__kept : (Str.ofString "run" == Str.ofString "_kept") = false := by decide +kernel
theorem ne_Sessions_run__kept_p : ¬ (Str.ofString "run" = Str.ofString "_kept") := by decide +kernel
theorem ne_Sessions_answer__kept : (Str.ofString "answer" == Str.ofString "_kept") = false := by decide +kernel
theorem ne_Sessions_answer__kept_p : ¬ (Str.ofString "answer" = Str.ofString "_kept") := by decide +kernel
theorem ne_Sessions_last__kept : (Str.ofString "last" == Str.ofString "_kept") = false := by decide +kernel
theorem ne_Sessions_last__kept_p : ¬ (Str.ofString "last" = Str.ofString "_kept") := by decide +kernel
theorem ne_Sessions_image__kept : (Str.ofString "image" == Str.ofString "_kept") = false := by decide +kernel
theorem ne_Sessions_image__kept_p : ¬ (Str.ofString "image" = Str.ofString "_kept") := by decide +kernel
theorem ne_Sessions_from_image__kept : (Str.ofString "from_image" == Str.ofString "_kept") = false := by decide +kernel
theorem ne_Sessions_from_image__kept_p : ¬ (Str.ofString "from_image" = Str.ofString "_kept") := by decide +kernel
/-- the attributes of a Sessions, in the order in which they are stored -/
def fl_Sessions (v0 : V) : List (Str × V) := [("_kept", v0)]
theorem fl_Sessions__kept {v0 : V} : (fl_Sessions v0).lookup ("_kept" : Str) = some v0 := by unfold fl_Sessions; simp [List.lookup, ne_Sessions_run__kept, ne_Sessions_answer__kept, ne_Sessions_last__kept, ne_Sessions_image__kept, ne_Sessions_from_image__kept, ne_Sessions_run__kept_p, ne_Sessions_answer__kept_p, ne_Sessions_last__kept_p, ne_Sessions_image__kept_p, ne_Sessions_from_image__kept_p]
theorem pf_Sessions__kept {v0 x : V} : putF ("_kept" : Str) x (fl_Sessions v0) = fl_Sessions x := by unfold fl_Sessions; simp [putF, ne_Sessions_run__kept, ne_Sessions_answer__kept, ne_Sessions_last__kept, ne_Sessions_image__kept, ne_Sessions_from_image__kept, ne_Sessions_run__kept_p, ne_Sessions_answer__kept_p, ne_Sessions_last__kept_p, ne_Sessions_image__kept_p, ne_Sessions_from_image__kept_p]
theorem fl_Sessions_no_run {v0 : V} : (fl_Sessions v0).lookup ("run" : Str) = none := by unfold fl_Sessions; simp [List.lookup, ne_Sessions_run__kept, ne_Sessions_answer__kept, ne_Sessions_last__kept, ne_Sessions_image__kept, ne_Sessions_from_image__kept, ne_Sessions_run__kept_p, ne_Sessions_answer__kept_p, ne_Sessions_last__kept_p, ne_Sessions_image__kept_p, ne_Sessions_from_image__kept_p]
theorem fl_Sessions_no_answer {v0 : V} : (fl_Sessions v0).lookup ("answer" : Str) = none := by unfold fl_Sessions; simp [List.lookup, ne_Sessions_run__kept, ne_Sessions_answer__kept, ne_Sessions_last__kept, ne_Sessions_image__kept, ne_Sessions_from_image__kept, ne_Sessions_run__kept_p, ne_Sessions_answer__kept_p, ne_Sessions_last__kept_p, ne_Sessions_image__kept_p, ne_Sessions_from_image__kept_p]
theorem fl_Sessions_no_last {v0 : V} : (fl_Sessions v0).lookup ("last" : Str) = none := by unfold fl_Sessions; simp [List.lookup, ne_Sessions_run__kept, ne_Sessions_answer__kept, ne_Sessions_last__kept, ne_Sessions_image__kept, ne_Sessions_from_image__kept, ne_Sessions_run__kept_p, ne_Sessions_answer__kept_p, ne_Sessions_last__kept_p, ne_Sessions_image__kept_p, ne_Sessions_from_image__kept_p]
theorem fl_Sessions_no_image {v0 : V} : (fl_Sessions v0).lookup ("image" : Str) = none := by unfold fl_Sessions; simp [List.lookup, ne_Sessions_run__kept, ne_Sessions_answer__kept, ne_Sessions_last__kept, ne_Sessions_image__kept, ne_Sessions_from_image__kept, ne_Sessions_run__kept_p, ne_Sessions_answer__kept_p, ne_Sessions_last__kept_p, ne_Sessions_image__kept_p, ne_Sessions_from_image__kept_p]
theorem fl_Sessions_no_from_image {v0 : V} : (fl_Sessions v0).lookup ("from_image" : Str) = none := by unfold fl_Sessions; simp [List.lookup, ne_Sessions_run__kept, ne_Sessions_answer__kept, ne_Sessions_last__kept, ne_Sessions_image__kept, ne_Sessions_from_image__kept, ne_Sessions_run__kept_p, ne_Sessions_answer__kept_p, ne_Sessions_last__kept_p, ne_Sessions_image__kept_p, ne_Sessions_from_image__kept_p]
theorem fl_Sessions_new {v0 : V} : putF ("_kept" : Str) v0 ([]) = fl_Sessions v0 := by unfold fl_Sessions; simp [putF, ne_Sessions_run__kept, ne_Sessions_answer__kept, ne_Sessions_last__kept, ne_Sessions_image__kept, ne_Sessions_from_image__kept, ne_Sessions_run__kept_p, ne_Sessions_answer__kept_p, ne_Sessions_last__kept_p, ne_Sessions_image__kept_p, ne_Sessions_from_image__kept_p]
theorem ne_Store_revision_oldest : (Str.ofString "revision" == Str.ofString "oldest") = false := by decide +kernel
theorem ne_Store_revision_oldest_p : ¬ (Str.ofString "revision" = Str.ofString "oldest") := by decide +kernel
theorem ne_Store_revision__table : (Str.ofString "revision" == Str.ofString "_table") = false := by decide +kernel
theorem ne_Store_revision__table_p : ¬ (Str.ofString "revision" = Str.ofString "_table") := by decide +kernel
theorem ne_Store_revision__changes : (Str.ofString "revision" == Str.ofString "_changes") = false := by decide +kernel
theorem ne_Store_revision__changes_p : ¬ (Str.ofString "revision" = Str.ofString "_changes") := by decide +kernel
theorem ne_Store_oldest_revision : (Str.ofString "oldest" == Str.ofString "revision") = false := by decide +kernel
theorem ne_Store_oldest_revision_p : ¬ (Str.ofString "oldest" = Str.ofString "revision") := by decide +kernel
theorem ne_Store_oldest__table : (Str.ofString "oldest" == Str.ofString "_table") = false := by decide +kernel
theorem ne_Store_oldest__table_p : ¬ (Str.ofString "oldest" = Str.ofString "_table") := by decide +kernel
theorem ne_Store_oldest__changes : (Str.ofString "oldest" == Str.ofString "_changes") = false := by decide +kernel
theorem ne_Store_oldest__changes_p : ¬ (Str.ofString "oldest" = Str.ofString "_changes") := by decide +kernel
theorem ne_Store__table_revision : (Str.ofString "_table" == Str.ofString "revision") = false := by decide +kernel
theorem ne_Store__table_revision_p : ¬ (Str.ofString "_table" = Str.ofString "revision") := by decide +kernel
theorem ne_Store__table_oldest : (Str.ofString "_table" == Str.ofString "oldest") = false := by decide +kernel
theorem ne_Store__table_oldest_p : ¬ (Str.ofString "_table" = Str.ofString "oldest") := by decide +kernel
theorem ne_Store__table__changes : (Str.ofString "_table" == Str.ofString "_changes") = false := by decide +kernel
theorem ne_Store__table__changes_p : ¬ (Str.ofString "_table" = Str.ofString "_changes") := by decide +kernel
theorem ne_Store__changes_revision : (Str.ofString "_changes" == Str.ofString "revision") = false := by decide +kernel
theorem ne_Store__changes_revision_p : ¬ (Str.ofString "_changes" = Str.ofString "revision") := by decide +kernel
theorem ne_Store__changes_oldest : (Str.ofString "_changes" == Str.ofString "oldest") = false := by decide +kernel
theorem ne_Store__changes_oldest_p : ¬ (Str.ofString "_changes" = Str.ofString "oldest") := by decide +kernel
theorem ne_Store__changes__table : (Str.ofString "_changes" == Str.ofString "_table") = false := by decide +kernel
theorem ne_Store__changes__table_p : ¬ (Str.ofString "_changes" = Str.ofString "_table") := by decide +kernel
theorem ne_Store_entry_revision : (Str.ofString "entry" == Str.ofString "revision") = false := by decide +kernel
theorem ne_Store_entry_revision_p : ¬ (Str.ofString "entry" = Str.ofString "revision") := by decide +kernel
theorem ne_Store_entry_oldest : (Str.ofString "entry" == Str.ofString "oldest") = false := by decide +kernel
theorem ne_Store_entry_oldest_p : ¬ (Str.ofString "entry" = Str.ofString "oldest") := by decide +kernel
theorem ne_Store_entry__table : (Str.ofString "entry" == Str.ofString "_table") = false := by decide +kernel
theorem ne_Store_entry__table_p : ¬ (Str.ofString "entry" = Str.ofString "_table") := by decide +kernel
theorem ne_Store_entry__changes : (Str.ofString "entry" == Str.ofString "_changes") = false := by decide +kernel
theorem ne_Store_entry__changes_p : ¬ (Str.ofString "entry" = Str.ofString "_changes") := by decide +kernel
theorem ne_Store_entries_revision : (Str.ofString "entries" == Str.ofString "revision") = false := by decide +kernel
theorem ne_Store_entries_revision_p : ¬ (Str.ofString "entries" = Str.ofString "revision") := by decide +kernel
theorem ne_Store_entries_oldest : (Str.ofString "entries" == Str.ofString "oldest") = false := by decide +kernel
theorem ne_Store_entries_oldest_p : ¬ (Str.ofString "entries" = Str.ofString "oldest") := by decide +kernel
theorem ne_Store_entries__table : (Str.ofString "entries" == Str.ofString "_table") = false := by decide +kernel
theorem ne_Store_entries__table_p : ¬ (Str.ofString "entries" = Str.ofString "_table") := by decide +kernel
theorem ne_Store_entries__changes : (Str.ofString "entries" == Str.ofString "_changes") = false := by decide +kernel
theorem ne_Store_entries__changes_p : ¬ (Str.ofString "entries" = Str.ofString "_changes") := by decide +kernel
theorem ne_Store_apply_revision : (Str.ofString "apply" == Str.ofString "revision") = false := by decide +kernel
theorem ne_Store_apply_revision_p : ¬ (Str.ofString "apply" = Str.ofString "revision") := by decide +kernel
theorem ne_Store_apply_oldest : (Str.ofString "apply" == Str.ofString "oldest") = false := by decide +kernel
theorem ne_Store_apply_oldest_p : ¬ (Str.ofString "apply" = Str.ofString "oldest") := by decide +kernel
theorem ne_Store_apply__table : (Str.ofString "apply" == Str.ofString "_table") = false := by decide +kernel
theorem ne_Store_apply__table_p : ¬ (Str.ofString "apply" = Str.ofString "_table") := by decide +kernel
theorem ne_Store_apply__changes : (Str.ofString "apply" == Str.ofString "_changes") = false := by decide +kernel
theorem ne_Store_apply__changes_p : ¬ (Str.ofString "apply" = Str.ofString "_changes") := by decide +kernel
theorem ne_Store__holds_revision : (Str.ofString "_holds" == Str.ofString "revision") = false := by decide +kernel
theorem ne_Store__holds_revision_p : ¬ (Str.ofString "_holds" = Str.ofString "revision") := by decide +kernel
theorem ne_Store__holds_oldest : (Str.ofString "_holds" == Str.ofString "oldest") = false := by decide +kernel
theorem ne_Store__holds_oldest_p : ¬ (Str.ofString "_holds" = Str.ofString "oldest") := by decide +kernel
theorem ne_Store__holds__table : (Str.ofString "_holds" == Str.ofString "_table") = false := by decide +kernel
theorem ne_Store__holds__table_p : ¬ (Str.ofString "_holds" = Str.ofString "_table") := by decide +kernel
theorem ne_Store__holds__changes : (Str.ofString "_holds" == Str.ofString "_changes") = false := by decide +kernel
theorem ne_Store__holds__changes_p : ¬ (Str.ofString "_holds" = Str.ofString "_changes") := by decide +kernel
theorem ne_Store__change_revision : (Str.ofString "_change" == Str.ofString "revision") = false := by decide +kernel
theorem ne_Store__change_revision_p : ¬ (Str.ofString "_change" = Str.ofString "revision") := by decide +kernel
theorem ne_Store__change_oldest : (Str.ofString "_change" == Str.ofString "oldest") = false := by decide +kernel
theorem ne_Store__change_oldest_p : ¬ (Str.ofString "_change" = Str.ofString "oldest") := by decide +kernel
theorem ne_Store__change__table : (Str.ofString "_change" == Str.ofString "_table") = false := by decide +kernel
theorem ne_Store__change__table_p : ¬ (Str.ofString "_change" = Str.ofString "_table") := by decide +kernel
theorem ne_Store__change__changes : (Str.ofString "_change" == Str.ofString "_changes") = false := by decide +kernel
theorem ne_Store__change__changes_p : ¬ (Str.ofString "_change" = Str.ofString "_changes") := by decide +kernel
theorem ne_Store_image_revision : (Str.ofString "image" == Str.ofString "revision") = false := by decide +kernel
theorem ne_Store_image_revision_p : ¬ (Str.ofString "image" = Str.ofString "revision") := by decide +kernel
theorem ne_Store_image_oldest : (Str.ofString "image" == Str.ofString "oldest") = false := by decide +kernel
theorem ne_Store_image_oldest_p : ¬ (Str.ofString "image" = Str.ofString "oldest") := by decide +kernel
theorem ne_Store_image__table : (Str.ofString "image" == Str.ofString "_table") = false := by decide +kernel
theorem ne_Store_image__table_p : ¬ (Str.ofString "image" = Str.ofString "_table") := by decide +kernel
theorem ne_Store_image__changes : (Str.ofString "image" == Str.ofString "_changes") = false := by decide +kernel
theorem ne_Store_image__changes_p : ¬ (Str.ofString "image" = Str.ofString "_changes") := by decide +kernel
theorem ne_Store_from_image_revision : (Str.ofString "from_image" == Str.ofString "revision") = false := by decide +kernel
theorem ne_Store_from_image_revision_p : ¬ (Str.ofString "from_image" = Str.ofString "revision") := by decide +kernel
theorem ne_Store_from_image_oldest : (Str.ofString "from_image" == Str.ofString "oldest") = false := by decide +kernel
theorem ne_Store_from_image_oldest_p : ¬ (Str.ofString "from_image" = Str.ofString "oldest") := by decide +kernel
theorem ne_Store_from_image__table : (Str.ofString "from_image" == Str.ofString "_table") = false := by decide +kernel
theorem ne_Store_from_image__table_p : ¬ (Str.ofString "from_image" = Str.ofString "_table") := by decide +kernel
theorem ne_Store_from_image__changes : (Str.ofString "from_image" == Str.ofString "_changes") = false := by decide +kernel
theorem ne_Store_from_image__changes_p : ¬ (Str.ofString "from_image" = Str.ofString "_changes") := by decide +kernel
/-- the attributes of a Store, in the order in which they are stored -/
def fl_Store (v0 v1 v2 v3 : V) : List (Str × V) := [("revision", v0), ("oldest", v1), ("_table", v2), ("_changes", v3)]
theorem fl_Store_revision {v0 v1 v2 v3 : V} : (fl_Store v0 v1 v2 v3).lookup ("revision" : Str) = some v0 := by unfold fl_Store; simp [List.lookup, ne_Store_revision_oldest, ne_Store_revision__table, ne_Store_revision__changes, ne_Store_oldest_revision, ne_Store_oldest__table, ne_Store_oldest__changes, ne_Store__table_revision, ne_Store__table_oldest, ne_Store__table__changes, ne_Store__changes_revision, ne_Store__changes_oldest, ne_Store__changes__table, ne_Store_entry_revision, ne_Store_entry_oldest, ne_Store_entry__table, ne_Store_entry__changes, ne_Store_entries_revision, ne_Store_entries_oldest, ne_Store_entries__table, ne_Store_entries__changes, ne_Store_apply_revision, ne_Store_apply_oldest, ne_Store_apply__table, ne_Store_apply__changes, ne_Store__holds_revision, ne_Store__holds_oldest, ne_Store__holds__table, ne_Store__holds__changes, ne_Store__change_revision, ne_Store__change_oldest, ne_Store__change__table, ne_Store__change__changes, ne_Store_image_revision, ne_Store_image_oldest, ne_Store_image__table, ne_Store_image__changes, ne_Store_from_image_revision, ne_Store_from_image_oldest, ne_Store_from_image__table, ne_Store_from_image__changes, ne_Store_revision_oldest_p, ne_Store_revision__table_p, ne_Store_revision__changes_p, ne_Store_oldest_revision_p, ne_Store_oldest__table_p, ne_Store_oldest__changes_p, ne_Store__table_revision_p, ne_Store__table_oldest_p, ne_Store__table__changes_p, ne_Store__changes_revision_p, ne_Store__changes_oldest_p, ne_Store__changes__table_p, ne_Store_entry_revision_p, ne_Store_entry_oldest_p, ne_Store_entry__table_p, ne_Store_entry__changes_p, ne_Store_entries_revision_p, ne_Store_entries_oldest_p, ne_Store_entries__table_p, ne_Store_entries__changes_p, ne_Store_apply_revision_p, ne_Store_apply_oldest_p, ne_Store_apply__table_p, ne_Store_apply__changes_p, ne_Store__holds_revision_p, ne_Store__holds_oldest_p, ne_Store__holds__table_p, ne_Store__holds__changes_p, ne_Store__change_revision_p, ne_Store__change_oldest_p, ne_Store__change__table_p, ne_Store__change__changes_p, ne_Store_image_revision_p, ne_Store_image_oldest_p, ne_Store_image__table_p, ne_Store_image__changes_p, ne_Store_from_image_revision_p, ne_Store_from_image_oldest_p, ne_Store_from_image__table_p, ne_Store_from_image__changes_p]
theorem pf_Store_revision {v0 v1 v2 v3 x : V} : putF ("revision" : Str) x (fl_Store v0 v1 v2 v3) = fl_Store x v1 v2 v3 := by unfold fl_Store; simp [putF, ne_Store_revision_oldest, ne_Store_revision__table, ne_Store_revision__changes, ne_Store_oldest_revision, ne_Store_oldest__table, ne_Store_oldest__changes, ne_Store__table_revision, ne_Store__table_oldest, ne_Store__table__changes, ne_Store__changes_revision, ne_Store__changes_oldest, ne_Store__changes__table, ne_Store_entry_revision, ne_Store_entry_oldest, ne_Store_entry__table, ne_Store_entry__changes, ne_Store_entries_revision, ne_Store_entries_oldest, ne_Store_entries__table, ne_Store_entries__changes, ne_Store_apply_revision, ne_Store_apply_oldest, ne_Store_apply__table, ne_Store_apply__changes, ne_Store__holds_revision, ne_Store__holds_oldest, ne_Store__holds__table, ne_Store__holds__changes, ne_Store__change_revision, ne_Store__change_oldest, ne_Store__change__table, ne_Store__change__changes, ne_Store_image_revision, ne_Store_image_oldest, ne_Store_image__table, ne_Store_image__changes, ne_Store_from_image_revision, ne_Store_from_image_oldest, ne_Store_from_image__table, ne_Store_from_image__changes, ne_Store_revision_oldest_p, ne_Store_revision__table_p, ne_Store_revision__changes_p, ne_Store_oldest_revision_p, ne_Store_oldest__table_p, ne_Store_oldest__changes_p, ne_Store__table_revision_p, ne_Store__table_oldest_p, ne_Store__table__changes_p, ne_Store__changes_revision_p, ne_Store__changes_oldest_p, ne_Store__changes__table_p, ne_Store_entry_revision_p, ne_Store_entry_oldest_p, ne_Store_entry__table_p, ne_Store_entry__changes_p, ne_Store_entries_revision_p, ne_Store_entries_oldest_p, ne_Store_entries__table_p, ne_Store_entries__changes_p, ne_Store_apply_revision_p, ne_Store_apply_oldest_p, ne_Store_apply__table_p, ne_Store_apply__changes_p, ne_Store__holds_revision_p, ne_Store__holds_oldest_p, ne_Store__holds__table_p, ne_Store__holds__changes_p, ne_Store__change_revision_p, ne_Store__change_oldest_p, ne_Store__change__table_p, ne_Store__change__changes_p, ne_Store_image_revision_p, ne_Store_image_oldest_p, ne_Store_image__table_p, ne_Store_image__changes_p, ne_Store_from_image_revision_p, ne_Store_from_image_oldest_p, ne_Store_from_image__table_p, ne_Store_from_image__changes_p]
theorem fl_Store_oldest {v0 v1 v2 v3 : V} : (fl_Store v0 v1 v2 v3).lookup ("oldest" : Str) = some v1 := by unfold fl_Store; simp [List.lookup, ne_Store_revision_oldest, ne_Store_revision__table, ne_Store_revision__changes, ne_Store_oldest_revision, ne_Store_oldest__table, ne_Store_oldest__changes, ne_Store__table_revision, ne_Store__table_oldest, ne_Store__table__changes, ne_Store__changes_revision, ne_Store__changes_oldest, ne_Store__changes__table, ne_Store_entry_revision, ne_Store_entry_oldest, ne_Store_entry__table, ne_Store_entry__changes, ne_Store_entries_revision, ne_Store_entries_oldest, ne_Store_entries__table, ne_Store_entries__changes, ne_Store_apply_revision, ne_Store_apply_oldest, ne_Store_apply__table, ne_Store_apply__changes, ne_Store__holds_revision, ne_Store__holds_oldest, ne_Store__holds__table, ne_Store__holds__changes, ne_Store__change_revision, ne_Store__change_oldest, ne_Store__change__table, ne_Store__change__changes, ne_Store_image_revision, ne_Store_image_oldest, ne_Store_image__table, ne_Store_image__changes, ne_Store_from_image_revision, ne_Store_from_image_oldest, ne_Store_from_image__table, ne_Store_from_image__changes, ne_Store_revision_oldest_p, ne_Store_revision__table_p, ne_Store_revision__changes_p, ne_Store_oldest_revision_p, ne_Store_oldest__table_p, ne_Store_oldest__changes_p, ne_Store__table_revision_p, ne_Store__table_oldest_p, ne_Store__table__changes_p, ne_Store__changes_revision_p, ne_Store__changes_oldest_p, ne_Store__changes__table_p, ne_Store_entry_revision_p, ne_Store_entry_oldest_p, ne_Store_entry__table_p, ne_Store_entry__changes_p, ne_Store_entries_revision_p, ne_Store_entries_oldest_p, ne_Store_entries__table_p, ne_Store_entries__changes_p, ne_Store_apply_revision_p, ne_Store_apply_oldest_p, ne_Store_apply__table_p, ne_Store_apply__changes_p, ne_Store__holds_revision_p, ne_Store__holds_oldest_p, ne_Store__holds__table_p, ne_Store__holds__changes_p, ne_Store__change_revision_p, ne_Store__change_oldest_p, ne_Store__change__table_p, ne_Store__change__changes_p, ne_Store_image_revision_p, ne_Store_image_oldest_p, ne_Store_image__table_p, ne_Store_image__changes_p, ne_Store_from_image_revision_p, ne_Store_from_image_oldest_p, ne_Store_from_image__table_p, ne_Store_from_image__changes_p]
theorem pf_Store_oldest {v0 v1 v2 v3 x : V} : putF ("oldest" : Str) x (fl_Store v0 v1 v2 v3) = fl_Store v0 x v2 v3 := by unfold fl_Store; simp [putF, ne_Store_revision_oldest, ne_Store_revision__table, ne_Store_revision__changes, ne_Store_oldest_revision, ne_Store_oldest__table, ne_Store_oldest__changes, ne_Store__table_revision, ne_Store__table_oldest, ne_Store__table__changes, ne_Store__changes_revision, ne_Store__changes_oldest, ne_Store__changes__table, ne_Store_entry_revision, ne_Store_entry_oldest, ne_Store_entry__table, ne_Store_entry__changes, ne_Store_entries_revision, ne_Store_entries_oldest, ne_Store_entries__table, ne_Store_entries__changes, ne_Store_apply_revision, ne_Store_apply_oldest, ne_Store_apply__table, ne_Store_apply__changes, ne_Store__holds_revision, ne_Store__holds_oldest, ne_Store__holds__table, ne_Store__holds__changes, ne_Store__change_revision, ne_Store__change_oldest, ne_Store__change__table, ne_Store__change__changes, ne_Store_image_revision, ne_Store_image_oldest, ne_Store_image__table, ne_Store_image__changes, ne_Store_from_image_revision, ne_Store_from_image_oldest, ne_Store_from_image__table, ne_Store_from_image__changes, ne_Store_revision_oldest_p, ne_Store_revision__table_p, ne_Store_revision__changes_p, ne_Store_oldest_revision_p, ne_Store_oldest__table_p, ne_Store_oldest__changes_p, ne_Store__table_revision_p, ne_Store__table_oldest_p, ne_Store__table__changes_p, ne_Store__changes_revision_p, ne_Store__changes_oldest_p, ne_Store__changes__table_p, ne_Store_entry_revision_p, ne_Store_entry_oldest_p, ne_Store_entry__table_p, ne_Store_entry__changes_p, ne_Store_entries_revision_p, ne_Store_entries_oldest_p, ne_Store_entries__table_p, ne_Store_entries__changes_p, ne_Store_apply_revision_p, ne_Store_apply_oldest_p, ne_Store_apply__table_p, ne_Store_apply__changes_p, ne_Store__holds_revision_p, ne_Store__holds_oldest_p, ne_Store__holds__table_p, ne_Store__holds__changes_p, ne_Store__change_revision_p, ne_Store__change_oldest_p, ne_Store__change__table_p, ne_Store__change__changes_p, ne_Store_image_revision_p, ne_Store_image_oldest_p, ne_Store_image__table_p, ne_Store_image__changes_p, ne_Store_from_image_revision_p, ne_Store_from_image_oldest_p, ne_Store_from_image__table_p, ne_Store_from_image__changes_p]
theorem fl_Store__table {v0 v1 v2 v3 : V} : (fl_Store v0 v1 v2 v3).lookup ("_table" : Str) = some v2 := by unfold fl_Store; simp [List.lookup, ne_Store_revision_oldest, ne_Store_revision__table, ne_Store_revision__changes, ne_Store_oldest_revision, ne_Store_oldest__table, ne_Store_oldest__changes, ne_Store__table_revision, ne_Store__table_oldest, ne_Store__table__changes, ne_Store__changes_revision, ne_Store__changes_oldest, ne_Store__changes__table, ne_Store_entry_revision, ne_Store_entry_oldest, ne_Store_entry__table, ne_Store_entry__changes, ne_Store_entries_revision, ne_Store_entries_oldest, ne_Store_entries__table, ne_Store_entries__changes, ne_Store_apply_revision, ne_Store_apply_oldest, ne_Store_apply__table, ne_Store_apply__changes, ne_Store__holds_revision, ne_Store__holds_oldest, ne_Store__holds__table, ne_Store__holds__changes, ne_Store__change_revision, ne_Store__change_oldest, ne_Store__change__table, ne_Store__change__changes, ne_Store_image_revision, ne_Store_image_oldest, ne_Store_image__table, ne_Store_image__changes, ne_Store_from_image_revision, ne_Store_from_image_oldest, ne_Store_from_image__table, ne_Store_from_image__changes, ne_Store_revision_oldest_p, ne_Store_revision__table_p, ne_Store_revision__changes_p, ne_Store_oldest_revision_p, ne_Store_oldest__table_p, ne_Store_oldest__changes_p, ne_Store__table_revision_p, ne_Store__table_oldest_p, ne_Store__table__changes_p, ne_Store__changes_revision_p, ne_Store__changes_oldest_p, ne_Store__changes__table_p, ne_Store_entry_revision_p, ne_Store_entry_oldest_p, ne_Store_entry__table_p, ne_Store_entry__changes_p, ne_Store_entries_revision_p, ne_Store_entries_oldest_p, ne_Store_entries__table_p, ne_Store_entries__changes_p, ne_Store_apply_revision_p, ne_Store_apply_oldest_p, ne_Store_apply__table_p, ne_Store_apply__changes_p, ne_Store__holds_revision_p, ne_Store__holds_oldest_p, ne_Store__holds__table_p, ne_Store__holds__changes_p, ne_Store__change_revision_p, ne_Store__change_oldest_p, ne_Store__change__table_p, ne_Store__change__changes_p, ne_Store_image_revision_p, ne_Store_image_oldest_p, ne_Store_image__table_p, ne_Store_image__changes_p, ne_Store_from_image_revision_p, ne_Store_from_image_oldest_p, ne_Store_from_image__table_p, ne_Store_from_image__changes_p]
theorem pf_Store__table {v0 v1 v2 v3 x : V} : putF ("_table" : Str) x (fl_Store v0 v1 v2 v3) = fl_Store v0 v1 x v3 := by unfold fl_Store; simp [putF, ne_Store_revision_oldest, ne_Store_revision__table, ne_Store_revision__changes, ne_Store_oldest_revision, ne_Store_oldest__table, ne_Store_oldest__changes, ne_Store__table_revision, ne_Store__table_oldest, ne_Store__table__changes, ne_Store__changes_revision, ne_Store__changes_oldest, ne_Store__changes__table, ne_Store_entry_revision, ne_Store_entry_oldest, ne_Store_entry__table, ne_Store_entry__changes, ne_Store_entries_revision, ne_Store_entries_oldest, ne_Store_entries__table, ne_Store_entries__changes, ne_Store_apply_revision, ne_Store_apply_oldest, ne_Store_apply__table, ne_Store_apply__changes, ne_Store__holds_revision, ne_Store__holds_oldest, ne_Store__holds__table, ne_Store__holds__changes, ne_Store__change_revision, ne_Store__change_oldest, ne_Store__change__table, ne_Store__change__changes, ne_Store_image_revision, ne_Store_image_oldest, ne_Store_image__table, ne_Store_image__changes, ne_Store_from_image_revision, ne_Store_from_image_oldest, ne_Store_from_image__table, ne_Store_from_image__changes, ne_Store_revision_oldest_p, ne_Store_revision__table_p, ne_Store_revision__changes_p, ne_Store_oldest_revision_p, ne_Store_oldest__table_p, ne_Store_oldest__changes_p, ne_Store__table_revision_p, ne_Store__table_oldest_p, ne_Store__table__changes_p, ne_Store__changes_revision_p, ne_Store__changes_oldest_p, ne_Store__changes__table_p, ne_Store_entry_revision_p, ne_Store_entry_oldest_p, ne_Store_entry__table_p, ne_Store_entry__changes_p, ne_Store_entries_revision_p, ne_Store_entries_oldest_p, ne_Store_entries__table_p, ne_Store_entries__changes_p, ne_Store_apply_revision_p, ne_Store_apply_oldest_p, ne_Store_apply__table_p, ne_Store_apply__changes_p, ne_Store__holds_revision_p, ne_Store__holds_oldest_p, ne_Store__holds__table_p, ne_Store__holds__changes_p, ne_Store__change_revision_p, ne_Store__change_oldest_p, ne_Store__change__table_p, ne_Store__change__changes_p, ne_Store_image_revision_p, ne_Store_image_oldest_p, ne_Store_image__table_p, ne_Store_image__changes_p, ne_Store_from_image_revision_p, ne_Store_from_image_oldest_p, ne_Store_from_image__table_p, ne_Store_from_image__changes_p]
theorem fl_Store__changes {v0 v1 v2 v3 : V} : (fl_Store v0 v1 v2 v3).lookup ("_changes" : Str) = some v3 := by unfold fl_Store; simp [List.lookup, ne_Store_revision_oldest, ne_Store_revision__table, ne_Store_revision__changes, ne_Store_oldest_revision, ne_Store_oldest__table, ne_Store_oldest__changes, ne_Store__table_revision, ne_Store__table_oldest, ne_Store__table__changes, ne_Store__changes_revision, ne_Store__changes_oldest, ne_Store__changes__table, ne_Store_entry_revision, ne_Store_entry_oldest, ne_Store_entry__table, ne_Store_entry__changes, ne_Store_entries_revision, ne_Store_entries_oldest, ne_Store_entries__table, ne_Store_entries__changes, ne_Store_apply_revision, ne_Store_apply_oldest, ne_Store_apply__table, ne_Store_apply__changes, ne_Store__holds_revision, ne_Store__holds_oldest, ne_Store__holds__table, ne_Store__holds__changes, ne_Store__change_revision, ne_Store__change_oldest, ne_Store__change__table, ne_Store__change__changes, ne_Store_image_revision, ne_Store_image_oldest, ne_Store_image__table, ne_Store_image__changes, ne_Store_from_image_revision, ne_Store_from_image_oldest, ne_Store_from_image__table, ne_Store_from_image__changes, ne_Store_revision_oldest_p, ne_Store_revision__table_p, ne_Store_revision__changes_p, ne_Store_oldest_revision_p, ne_Store_oldest__table_p, ne_Store_oldest__changes_p, ne_Store__table_revision_p, ne_Store__table_oldest_p, ne_Store__table__changes_p, ne_Store__changes_revision_p, ne_Store__changes_oldest_p, ne_Store__changes__table_p, ne_Store_entry_revision_p, ne_Store_entry_oldest_p, ne_Store_entry__table_p, ne_Store_entry__changes_p, ne_Store_entries_revision_p, ne_Store_entries_oldest_p, ne_Store_entries__table_p, ne_Store_entries__changes_p, ne_Store_apply_revision_p, ne_Store_apply_oldest_p, ne_Store_apply__table_p, ne_Store_apply__changes_p, ne_Store__holds_revision_p, ne_Store__holds_oldest_p, ne_Store__holds__table_p, ne_Store__holds__changes_p, ne_Store__change_revision_p, ne_Store__change_oldest_p, ne_Store__change__table_p, ne_Store__change__changes_p, ne_Store_image_revision_p, ne_Store_image_oldest_p, ne_Store_image__table_p, ne_Store_image__changes_p, ne_Store_from_image_revision_p, ne_Store_from_image_oldest_p, ne_Store_from_image__table_p, ne_Store_from_image__changes_p]
theorem pf_Store__changes {v0 v1 v2 v3 x : V} : putF ("_changes" : Str) x (fl_Store v0 v1 v2 v3) = fl_Store v0 v1 v2 x := by unfold fl_Store; simp [putF, ne_Store_revision_oldest, ne_Store_revision__table, ne_Store_revision__changes, ne_Store_oldest_revision, ne_Store_oldest__table, ne_Store_oldest__changes, ne_Store__table_revision, ne_Store__table_oldest, ne_Store__table__changes, ne_Store__changes_revision, ne_Store__changes_oldest, ne_Store__changes__table, ne_Store_entry_revision, ne_Store_entry_oldest, ne_Store_entry__table, ne_Store_entry__changes, ne_Store_entries_revision, ne_Store_entries_oldest, ne_Store_entries__table, ne_Store_entries__changes, ne_Store_apply_revision, ne_Store_apply_oldest, ne_Store_apply__table, ne_Store_apply__changes, ne_Store__holds_revision, ne_Store__holds_oldest, ne_Store__holds__table, ne_Store__holds__changes, ne_Store__change_revision, ne_Store__change_oldest, ne_Store__change__table, ne_Store__change__changes, ne_Store_image_revision, ne_Store_image_oldest, ne_Store_image__table, ne_Store_image__changes, ne_Store_from_image_revision, ne_Store_from_image_oldest, ne_Store_from_image__table, ne_Store_from_image__changes, ne_Store_revision_oldest_p, ne_Store_revision__table_p, ne_Store_revision__changes_p, ne_Store_oldest_revision_p, ne_Store_oldest__table_p, ne_Store_oldest__changes_p, ne_Store__table_revision_p, ne_Store__table_oldest_p, ne_Store__table__changes_p, ne_Store__changes_revision_p, ne_Store__changes_oldest_p, ne_Store__changes__table_p, ne_Store_entry_revision_p, ne_Store_entry_oldest_p, ne_Store_entry__table_p, ne_Store_entry__changes_p, ne_Store_entries_revision_p, ne_Store_entries_oldest_p, ne_Store_entries__table_p, ne_Store_entries__changes_p, ne_Store_apply_revision_p, ne_Store_apply_oldest_p, ne_Store_apply__table_p, ne_Store_apply__changes_p, ne_Store__holds_revision_p, ne_Store__holds_oldest_p, ne_Store__holds__table_p, ne_Store__holds__changes_p, ne_Store__change_revision_p, ne_Store__change_oldest_p, ne_Store__change__table_p, ne_Store__change__changes_p, ne_Store_image_revision_p, ne_Store_image_oldest_p, ne_Store_image__table_p, ne_Store_image__changes_p, ne_Store_from_image_revision_p, ne_Store_from_image_oldest_p, ne_Store_from_image__table_p, ne_Store_from_image__changes_p]
theorem fl_Store_no_entry {v0 v1 v2 v3 : V} : (fl_Store v0 v1 v2 v3).lookup ("entry" : Str) = none := by unfold fl_Store; simp [List.lookup, ne_Store_revision_oldest, ne_Store_revision__table, ne_Store_revision__changes, ne_Store_oldest_revision, ne_Store_oldest__table, ne_Store_oldest__changes, ne_Store__table_revision, ne_Store__table_oldest, ne_Store__table__changes, ne_Store__changes_revision, ne_Store__changes_oldest, ne_Store__changes__table, ne_Store_entry_revision, ne_Store_entry_oldest, ne_Store_entry__table, ne_Store_entry__changes, ne_Store_entries_revision, ne_Store_entries_oldest, ne_Store_entries__table, ne_Store_entries__changes, ne_Store_apply_revision, ne_Store_apply_oldest, ne_Store_apply__table, ne_Store_apply__changes, ne_Store__holds_revision, ne_Store__holds_oldest, ne_Store__holds__table, ne_Store__holds__changes, ne_Store__change_revision, ne_Store__change_oldest, ne_Store__change__table, ne_Store__change__changes, ne_Store_image_revision, ne_Store_image_oldest, ne_Store_image__table, ne_Store_image__changes, ne_Store_from_image_revision, ne_Store_from_image_oldest, ne_Store_from_image__table, ne_Store_from_image__changes, ne_Store_revision_oldest_p, ne_Store_revision__table_p, ne_Store_revision__changes_p, ne_Store_oldest_revision_p, ne_Store_oldest__table_p, ne_Store_oldest__changes_p, ne_Store__table_revision_p, ne_Store__table_oldest_p, ne_Store__table__changes_p, ne_Store__changes_revision_p, ne_Store__changes_oldest_p, ne_Store__changes__table_p, ne_Store_entry_revision_p, ne_Store_entry_oldest_p, ne_Store_entry__table_p, ne_Store_entry__changes_p, ne_Store_entries_revision_p, ne_Store_entries_oldest_p, ne_Store_entries__table_p, ne_Store_entries__changes_p, ne_Store_apply_revision_p, ne_Store_apply_oldest_p, ne_Store_apply__table_p, ne_Store_apply__changes_p, ne_Store__holds_revision_p, ne_Store__holds_oldest_p, ne_Store__holds__table_p, ne_Store__holds__changes_p, ne_Store__change_revision_p, ne_Store__change_oldest_p, ne_Store__change__table_p, ne_Store__change__changes_p, ne_Store_image_revision_p, ne_Store_image_oldest_p, ne_Store_image__table_p, ne_Store_image__changes_p, ne_Store_from_image_revision_p, ne_Store_from_image_oldest_p, ne_Store_from_image__table_p, ne_Store_from_image__changes_p]
theorem fl_Store_no_entries {v0 v1 v2 v3 : V} : (fl_Store v0 v1 v2 v3).lookup ("entries" : Str) = none := by unfold fl_Store; simp [List.lookup, ne_Store_revision_oldest, ne_Store_revision__table, ne_Store_revision__changes, ne_Store_oldest_revision, ne_Store_oldest__table, ne_Store_oldest__changes, ne_Store__table_revision, ne_Store__table_oldest, ne_Store__table__changes, ne_Store__changes_revision, ne_Store__changes_oldest, ne_Store__changes__table, ne_Store_entry_revision, ne_Store_entry_oldest, ne_Store_entry__table, ne_Store_entry__changes, ne_Store_entries_revision, ne_Store_entries_oldest, ne_Store_entries__table, ne_Store_entries__changes, ne_Store_apply_revision, ne_Store_apply_oldest, ne_Store_apply__table, ne_Store_apply__changes, ne_Store__holds_revision, ne_Store__holds_oldest, ne_Store__holds__table, ne_Store__holds__changes, ne_Store__change_revision, ne_Store__change_oldest, ne_Store__change__table, ne_Store__change__changes, ne_Store_image_revision, ne_Store_image_oldest, ne_Store_image__table, ne_Store_image__changes, ne_Store_from_image_revision, ne_Store_from_image_oldest, ne_Store_from_image__table, ne_Store_from_image__changes, ne_Store_revision_oldest_p, ne_Store_revision__table_p, ne_Store_revision__changes_p, ne_Store_oldest_revision_p, ne_Store_oldest__table_p, ne_Store_oldest__changes_p, ne_Store__table_revision_p, ne_Store__table_oldest_p, ne_Store__table__changes_p, ne_Store__changes_revision_p, ne_Store__changes_oldest_p, ne_Store__changes__table_p, ne_Store_entry_revision_p, ne_Store_entry_oldest_p, ne_Store_entry__table_p, ne_Store_entry__changes_p, ne_Store_entries_revision_p, ne_Store_entries_oldest_p, ne_Store_entries__table_p, ne_Store_entries__changes_p, ne_Store_apply_revision_p, ne_Store_apply_oldest_p, ne_Store_apply__table_p, ne_Store_apply__changes_p, ne_Store__holds_revision_p, ne_Store__holds_oldest_p, ne_Store__holds__table_p, ne_Store__holds__changes_p, ne_Store__change_revision_p, ne_Store__change_oldest_p, ne_Store__change__table_p, ne_Store__change__changes_p, ne_Store_image_revision_p, ne_Store_image_oldest_p, ne_Store_image__table_p, ne_Store_image__changes_p, ne_Store_from_image_revision_p, ne_Store_from_image_oldest_p, ne_Store_from_image__table_p, ne_Store_from_image__changes_p]
theorem fl_Store_no_apply {v0 v1 v2 v3 : V} : (fl_Store v0 v1 v2 v3).lookup ("apply" : Str) = none := by unfold fl_Store; simp [List.lookup, ne_Store_revision_oldest, ne_Store_revision__table, ne_Store_revision__changes, ne_Store_oldest_revision, ne_Store_oldest__table, ne_Store_oldest__changes, ne_Store__table_revision, ne_Store__table_oldest, ne_Store__table__changes, ne_Store__changes_revision, ne_Store__changes_oldest, ne_Store__changes__table, ne_Store_entry_revision, ne_Store_entry_oldest, ne_Store_entry__table, ne_Store_entry__changes, ne_Store_entries_revision, ne_Store_entries_oldest, ne_Store_entries__table, ne_Store_entries__changes, ne_Store_apply_revision, ne_Store_apply_oldest, ne_Store_apply__table, ne_Store_apply__changes, ne_Store__holds_revision, ne_Store__holds_oldest, ne_Store__holds__table, ne_Store__holds__changes, ne_Store__change_revision, ne_Store__change_oldest, ne_Store__change__table, ne_Store__change__changes, ne_Store_image_revision, ne_Store_image_oldest, ne_Store_image__table, ne_Store_image__changes, ne_Store_from_image_revision, ne_Store_from_image_oldest, ne_Store_from_image__table, ne_Store_from_image__changes, ne_Store_revision_oldest_p, ne_Store_revision__table_p, ne_Store_revision__changes_p, ne_Store_oldest_revision_p, ne_Store_oldest__table_p, ne_Store_oldest__changes_p, ne_Store__table_revision_p, ne_Store__table_oldest_p, ne_Store__table__changes_p, ne_Store__changes_revision_p, ne_Store__changes_oldest_p, ne_Store__changes__table_p, ne_Store_entry_revision_p, ne_Store_entry_oldest_p, ne_Store_entry__table_p, ne_Store_entry__changes_p, ne_Store_entries_revision_p, ne_Store_entries_oldest_p, ne_Store_entries__table_p, ne_Store_entries__changes_p, ne_Store_apply_revision_p, ne_Store_apply_oldest_p, ne_Store_apply__table_p, ne_Store_apply__changes_p, ne_Store__holds_revision_p, ne_Store__holds_oldest_p, ne_Store__holds__table_p, ne_Store__holds__changes_p, ne_Store__change_revision_p, ne_Store__change_oldest_p, ne_Store__change__table_p, ne_Store__change__changes_p, ne_Store_image_revision_p, ne_Store_image_oldest_p, ne_Store_image__table_p, ne_Store_image__changes_p, ne_Store_from_image_revision_p, ne_Store_from_image_oldest_p, ne_Store_from_image__table_p, ne_Store_from_image__changes_p]
theorem fl_Store_no__holds {v0 v1 v2 v3 : V} : (fl_Store v0 v1 v2 v3).lookup ("_holds" : Str) = none := by unfold fl_Store; simp [List.lookup, ne_Store_revision_oldest, ne_Store_revision__table, ne_Store_revision__changes, ne_Store_oldest_revision, ne_Store_oldest__table, ne_Store_oldest__changes, ne_Store__table_revision, ne_Store__table_oldest, ne_Store__table__changes, ne_Store__changes_revision, ne_Store__changes_oldest, ne_Store__changes__table, ne_Store_entry_revision, ne_Store_entry_oldest, ne_Store_entry__table, ne_Store_entry__changes, ne_Store_entries_revision, ne_Store_entries_oldest, ne_Store_entries__table, ne_Store_entries__changes, ne_Store_apply_revision, ne_Store_apply_oldest, ne_Store_apply__table, ne_Store_apply__changes, ne_Store__holds_revision, ne_Store__holds_oldest, ne_Store__holds__table, ne_Store__holds__changes, ne_Store__change_revision, ne_Store__change_oldest, ne_Store__change__table, ne_Store__change__changes, ne_Store_image_revision, ne_Store_image_oldest, ne_Store_image__table, ne_Store_image__changes, ne_Store_from_image_revision, ne_Store_from_image_oldest, ne_Store_from_image__table, ne_Store_from_image__changes, ne_Store_revision_oldest_p, ne_Store_revision__table_p, ne_Store_revision__changes_p, ne_Store_oldest_revision_p, ne_Store_oldest__table_p, ne_Store_oldest__changes_p, ne_Store__table_revision_p, ne_Store__table_oldest_p, ne_Store__table__changes_p, ne_Store__changes_revision_p, ne_Store__changes_oldest_p, ne_Store__changes__table_p, ne_Store_entry_revision_p, ne_Store_entry_oldest_p, ne_Store_entry__table_p, ne_Store_entry__changes_p, ne_Store_entries_revision_p, ne_Store_entries_oldest_p, ne_Store_entries__table_p, ne_Store_entries__changes_p, ne_Store_apply_revision_p, ne_Store_apply_oldest_p, ne_Store_apply__table_p, ne_Store_apply__changes_p, ne_Store__holds_revision_p, ne_Store__holds_oldest_p, ne_Store__holds__table_p, ne_Store__holds__changes_p, ne_Store__change_revision_p, ne_Store__change_oldest_p, ne_Store__change__table_p, ne_Store__change__changes_p, ne_Store_image_revision_p, ne_Store_image_oldest_p, ne_Store_image__table_p, ne_Store_image__changes_p, ne_Store_from_image_revision_p, ne_Store_from_image_oldest_p, ne_Store_from_image__table_p, ne_Store_from_image__changes_p]
theorem fl_Store_no__change {v0 v1 v2 v3 : V} : (fl_Store v0 v1 v2 v3).lookup ("_change" : Str) = none := by unfold fl_Store; simp [List.lookup, ne_Store_revision_oldest, ne_Store_revision__table, ne_Store_revision__changes, ne_Store_oldest_revision, ne_Store_oldest__table, ne_Store_oldest__changes, ne_Store__table_revision, ne_Store__table_oldest, ne_Store__table__changes, ne_Store__changes_revision, ne_Store__changes_oldest, ne_Store__changes__table, ne_Store_entry_revision, ne_Store_entry_oldest, ne_Store_entry__table, ne_Store_entry__changes, ne_Store_entries_revision, ne_Store_entries_oldest, ne_Store_entries__table, ne_Store_entries__changes, ne_Store_apply_revision, ne_Store_apply_oldest, ne_Store_apply__table, ne_Store_apply__changes, ne_Store__holds_revision, ne_Store__holds_oldest, ne_Store__holds__table, ne_Store__holds__changes, ne_Store__change_revision, ne_Store__change_oldest, ne_Store__change__table, ne_Store__change__changes, ne_Store_image_revision, ne_Store_image_oldest, ne_Store_image__table, ne_Store_image__changes, ne_Store_from_image_revision, ne_Store_from_image_oldest, ne_Store_from_image__table, ne_Store_from_image__changes, ne_Store_revision_oldest_p, ne_Store_revision__table_p, ne_Store_revision__changes_p, ne_Store_oldest_revision_p, ne_Store_oldest__table_p, ne_Store_oldest__changes_p, ne_Store__table_revision_p, ne_Store__table_oldest_p, ne_Store__table__changes_p, ne_Store__changes_revision_p, ne_Store__changes_oldest_p, ne_Store__changes__table_p, ne_Store_entry_revision_p, ne_Store_entry_oldest_p, ne_Store_entry__table_p, ne_Store_entry__changes_p, ne_Store_entries_revision_p, ne_Store_entries_oldest_p, ne_Store_entries__table_p, ne_Store_entries__changes_p, ne_Store_apply_revision_p, ne_Store_apply_oldest_p, ne_Store_apply__table_p, ne_Store_apply__changes_p, ne_Store__holds_revision_p, ne_Store__holds_oldest_p, ne_Store__holds__table_p, ne_Store__holds__changes_p, ne_Store__change_revision_p, ne_Store__change_oldest_p, ne_Store__change__table_p, ne_Store__change__changes_p, ne_Store_image_revision_p, ne_Store_image_oldest_p, ne_Store_image__table_p, ne_Store_image__changes_p, ne_Store_from_image_revision_p, ne_Store_from_image_oldest_p, ne_Store_from_image__table_p, ne_Store_from_image__changes_p]
theorem fl_Store_no_image {v0 v1 v2 v3 : V} : (fl_Store v0 v1 v2 v3).lookup ("image" : Str) = none := by unfold fl_Store; simp [List.lookup, ne_Store_revision_oldest, ne_Store_revision__table, ne_Store_revision__changes, ne_Store_oldest_revision, ne_Store_oldest__table, ne_Store_oldest__changes, ne_Store__table_revision, ne_Store__table_oldest, ne_Store__table__changes, ne_Store__changes_revision, ne_Store__changes_oldest, ne_Store__changes__table, ne_Store_entry_revision, ne_Store_entry_oldest, ne_Store_entry__table, ne_Store_entry__changes, ne_Store_entries_revision, ne_Store_entries_oldest, ne_Store_entries__table, ne_Store_entries__changes, ne_Store_apply_revision, ne_Store_apply_oldest, ne_Store_apply__table, ne_Store_apply__changes, ne_Store__holds_revision, ne_Store__holds_oldest, ne_Store__holds__table, ne_Store__holds__changes, ne_Store__change_revision, ne_Store__change_oldest, ne_Store__change__table, ne_Store__change__changes, ne_Store_image_revision, ne_Store_image_oldest, ne_Store_image__table, ne_Store_image__changes, ne_Store_from_image_revision, ne_Store_from_image_oldest, ne_Store_from_image__table, ne_Store_from_image__changes, ne_Store_revision_oldest_p, ne_Store_revision__table_p, ne_Store_revision__changes_p, ne_Store_oldest_revision_p, ne_Store_oldest__table_p, ne_Store_oldest__changes_p, ne_Store__table_revision_p, ne_Store__table_oldest_p, ne_Store__table__changes_p, ne_Store__changes_revision_p, ne_Store__changes_oldest_p, ne_Store__changes__table_p, ne_Store_entry_revision_p, ne_Store_entry_oldest_p, ne_Store_entry__table_p, ne_Store_entry__changes_p, ne_Store_entries_revision_p, ne_Store_entries_oldest_p, ne_Store_entries__table_p, ne_Store_entries__changes_p, ne_Store_apply_revision_p, ne_Store_apply_oldest_p, ne_Store_apply__table_p, ne_Store_apply__changes_p, ne_Store__holds_revision_p, ne_Store__holds_oldest_p, ne_Store__holds__table_p, ne_Store__holds__changes_p, ne_Store__change_revision_p, ne_Store__change_oldest_p, ne_Store__change__table_p, ne_Store__change__changes_p, ne_Store_image_revision_p, ne_Store_image_oldest_p, ne_Store_image__table_p, ne_Store_image__changes_p, ne_Store_from_image_revision_p, ne_Store_from_image_oldest_p, ne_Store_from_image__table_p, ne_Store_from_image__changes_p]
theorem fl_Store_no_from_image {v0 v1 v2 v3 : V} : (fl_Store v0 v1 v2 v3).lookup ("from_image" : Str) = none := by unfold fl_Store; simp [List.lookup, ne_Store_revision_oldest, ne_Store_revision__table, ne_Store_revision__changes, ne_Store_oldest_revision, ne_Store_oldest__table, ne_Store_oldest__changes, ne_Store__table_revision, ne_Store__table_oldest, ne_Store__table__changes, ne_Store__changes_revision, ne_Store__changes_oldest, ne_Store__changes__table, ne_Store_entry_revision, ne_Store_entry_oldest, ne_Store_entry__table, ne_Store_entry__changes, ne_Store_entries_revision, ne_Store_entries_oldest, ne_Store_entries__table, ne_Store_entries__changes, ne_Store_apply_revision, ne_Store_apply_oldest, ne_Store_apply__table, ne_Store_apply__changes, ne_Store__holds_revision, ne_Store__holds_oldest, ne_Store__holds__table, ne_Store__holds__changes, ne_Store__change_revision, ne_Store__change_oldest, ne_Store__change__table, ne_Store__change__changes, ne_Store_image_revision, ne_Store_image_oldest, ne_Store_image__table, ne_Store_image__changes, ne_Store_from_image_revision, ne_Store_from_image_oldest, ne_Store_from_image__table, ne_Store_from_image__changes, ne_Store_revision_oldest_p, ne_Store_revision__table_p, ne_Store_revision__changes_p, ne_Store_oldest_revision_p, ne_Store_oldest__table_p, ne_Store_oldest__changes_p, ne_Store__table_revision_p, ne_Store__table_oldest_p, ne_Store__table__changes_p, ne_Store__changes_revision_p, ne_Store__changes_oldest_p, ne_Store__changes__table_p, ne_Store_entry_revision_p, ne_Store_entry_oldest_p, ne_Store_entry__table_p, ne_Store_entry__changes_p, ne_Store_entries_revision_p, ne_Store_entries_oldest_p, ne_Store_entries__table_p, ne_Store_entries__changes_p, ne_Store_apply_revision_p, ne_Store_apply_oldest_p, ne_Store_apply__table_p, ne_Store_apply__changes_p, ne_Store__holds_revision_p, ne_Store__holds_oldest_p, ne_Store__holds__table_p, ne_Store__holds__changes_p, ne_Store__change_revision_p, ne_Store__change_oldest_p, ne_Store__change__table_p, ne_Store__change__changes_p, ne_Store_image_revision_p, ne_Store_image_oldest_p, ne_Store_image__table_p, ne_Store_image__changes_p, ne_Store_from_image_revision_p, ne_Store_from_image_oldest_p, ne_Store_from_image__table_p, ne_Store_from_image__changes_p]
theorem fl_Store_new {v0 v1 v2 v3 : V} : putF ("_changes" : Str) v3 (putF ("_table" : Str) v2 (putF ("oldest" : Str) v1 (putF ("revision" : Str) v0 ([])))) = fl_Store v0 v1 v2 v3 := by unfold fl_Store; simp [putF, ne_Store_revision_oldest, ne_Store_revision__table, ne_Store_revision__changes, ne_Store_oldest_revision, ne_Store_oldest__table, ne_Store_oldest__changes, ne_Store__table_revision, ne_Store__table_oldest, ne_Store__table__changes, ne_Store__changes_revision, ne_Store__changes_oldest, ne_Store__changes__table, ne_Store_entry_revision, ne_Store_entry_oldest, ne_Store_entry__table, ne_Store_entry__changes, ne_Store_entries_revision, ne_Store_entries_oldest, ne_Store_entries__table, ne_Store_entries__changes, ne_Store_apply_revision, ne_Store_apply_oldest, ne_Store_apply__table, ne_Store_apply__changes, ne_Store__holds_revision, ne_Store__holds_oldest, ne_Store__holds__table, ne_Store__holds__changes, ne_Store__change_revision, ne_Store__change_oldest, ne_Store__change__table, ne_Store__change__changes, ne_Store_image_revision, ne_Store_image_oldest, ne_Store_image__table, ne_Store_image__changes, ne_Store_from_image_revision, ne_Store_from_image_oldest, ne_Store_from_image__table, ne_Store_from_image__changes, ne_Store_revision_oldest_p, ne_Store_revision__table_p, ne_Store_revision__changes_p, ne_Store_oldest_revision_p, ne_Store_oldest__table_p, ne_Store_oldest__changes_p, ne_Store__table_revision_p, ne_Store__table_oldest_p, ne_Store__table__changes_p, ne_Store__changes_revision_p, ne_Store__changes_oldest_p, ne_Store__changes__table_p, ne_Store_entry_revision_p, ne_Store_entry_oldest_p, ne_Store_entry__table_p, ne_Store_entry__changes_p, ne_Store_entries_revision_p, ne_Store_entries_oldest_p, ne_Store_entries__table_p, ne_Store_entries__changes_p, ne_Store_apply_revision_p, ne_Store_apply_oldest_p, ne_Store_apply__table_p, ne_Store_apply__changes_p, ne_Store__holds_revision_p, ne_Store__holds_oldest_p, ne_Store__holds__table_p, ne_Store__holds__changes_p, ne_Store__change_revision_p, ne_Store__change_oldest_p, ne_Store__change__table_p, ne_Store__change__changes_p, ne_Store_image_revision_p, ne_Store_image_oldest_p, ne_Store_image__table_p, ne_Store_image__changes_p, ne_Store_from_image_revision_p, ne_Store_from_image_oldest_p, ne_Store_from_image__table_p, ne_Store_from_image__changes_p]

/-! forms of data -/
def intIn (x : PyData) (lo hi : Int) : Bool := match x with
  | .int i => decide (lo ≤ i) && decide (i ≤ hi)
  | _ => false
def intOf : PyData → Int
  | .int i => i
  | _ => 0
def nameChs : Str := "abcdefghijklmnopqrstuvwxyz0123456789"
def digChs : Str := "0123456789"
def isNm : PyData → Bool
  | .str z => decide (1 ≤ z.length) && decide (z.length ≤ 12) && z.cps.toList.all fun c => decide (c ∈ nameChs.cps.toList)
  | _ => false
def plainCh (c : Nat) : Bool := decide (32 ≤ c) && decide (c ≤ 126) && !decide (c = 37)
def isTx : PyData → Bool
  | .str z => decide (z.length ≤ 40) && z.cps.toList.all plainCh
  | _ => false
def isCt (x : PyData) : Bool := intIn x 0 1000000000000
def isZo (x : PyData) : Bool := x.eqv (.str "") || isNm x
def isSl : PyData → Bool
  | .str z => decide (3 ≤ z.length) && (decide (z.cps.toList.getD (z.length - 1) 0 ∈ digChs.cps.toList) && (decide (z.cps.toList.getD (z.length - 2) 0 = 47) && isNm (.str (cutS z none (some (-2))))))
  | _ => false
def kindsD : List PyData := [.str "beat", .str "drain", .str "node", .str "note", .str "rollout", .str "service", .str "task"]
def statesD : List PyData := [.str "new", .str "bound", .str "running", .str "ended"]
def isKy (k n : PyData) : Bool := if k.eqv (.str "task") then isSl n else (kindsD.any fun z => z.eqv k) && isNm n
theorem z_len (z : Str) : z.cps.toList.length = z.length := by rw [Array.length_toList]; rfl
theorem cps_ix {z : Str} {j : Nat} (h1 : 1 ≤ j) (h2 : j ≤ z.length) : atI z.cps.toList (-(j : Int)) = some (z.cps.toList.getD (z.length - j) 0) := by
  have hl := z_len z
  unfold atI ixN
  rw [hl]
  rw [if_neg (by omega), if_pos (by omega)]
  have e : (-(j : Int) + (z.length : Int)).toNat = z.length - j := by omega
  rw [e]
  show z.cps.toList[z.length - j]? = _
  rw [List.getD_eq_getElem?_getD, List.getElem?_eq_getElem (by omega)]
  rfl
section
variable {P : Program} {w : World} {K : PySem.W.Frag} {mg : Str → Option Value} {base : Heap}
theorem ok_is_integer_within (T : TX K mg w) : FnOk P w K mg base CX0 1 T.a_is_integer_within T.d_is_integer_within ["number", "low", "high"] (spP K (P3 fun _ l h => ∃ lo hi, l = .int lo ∧ h = .int hi) (R3 fun x l h => .bool (intIn x (intOf l) (intOf h)))) := by
  refine okP T.F_is_integer_within sc_is_integer_within 0 rfl P3.len fun cdv A outer s H E hr => ⟨_, (pss_cons (ps_if (PW.pt (pw_or (pt_val (pe_callB (callK_isi (K := K) rfl) (by rfl) T.n_isinstance (by decide +kernel) (pa_cons (pv 0) (pa_cons (pe_bltn (v := .ty "bool") (u := .type "bool") (by rfl) T.n_bool (by decide +kernel) rfl) pa_nil)))) (pw_or1 (pt_not (pt_val (pe_callB (callK_isi (K := K) rfl) (by rfl) T.n_isinstance (by decide +kernel) (pa_cons (pv 0) (pa_cons (pe_bltn (v := .ty "int") (u := .type "int") (by rfl) T.n_int (by decide +kernel) rfl) pa_nil)))))))) (pss_one (ps_ret pe_bl)) pss_nil)
      (pss_one (ps_ret (pe_chain op_le op_le (pv 1) (pv 0) (pv 2))))), fun ds hd => ?_⟩
  obtain ⟨x, l, h, rfl, lo, hi, rfl, rfl⟩ := hd
  walk_at "pn"
  cases x
  case int i =>
    walk_at "px"
    walk_at "pi"
    · intro hh
      walk_at "px"
      refine r3d ?_
      show _ = PyData.bool (decide (lo ≤ i) && decide (i ≤ hi))
      rw [decide_eq_true hh, Bool.true_and]
    · intro hh
      refine r3d ?_
      show _ = PyData.bool (decide (lo ≤ i) && decide (i ≤ hi))
      rw [decide_eq_false hh, Bool.false_and]
  all_goals walk_at "px"
  all_goals walk_at "pr"
theorem ok_is_count (T : TX K mg w) : FnOk P w K mg base CX0 2 T.a_is_count T.d_is_count ["number"] (spP K (P1 fun _ => True) (R1 fun x => .bool (isCt x))) := by
  refine okP T.F_is_count sc_is_count 0 rfl P1.len fun cdv A outer s H E hr => ⟨_, (pss_one (ps_ret (pe_call (ok_is_integer_within T) (hr.mono (by decide)) (by rfl) T.g_is_integer_within T.F_is_integer_within.kp T.b_is_integer_within .nil pass0 (pa_cons (pv 0) (pa_cons pe_int (pa_cons (pe_glob (v := .int 1000000000000) (by rfl) T.c_MOST_COUNT ⟨_, rfl⟩) pa_nil)))))), fun ds hd => ?_⟩
  obtain ⟨x, rfl, _⟩ := hd
  walk_at "pn"
  walk_at "px"
  walk_at "pr"
theorem ok_is_plain_name (T : TX K mg w) : FnOk P w K mg base CX0 1 T.a_is_plain_name T.d_is_plain_name ["name"] (spP K (P1 fun x => okx 8 x = true) (R1 fun x => .bool (isNm x))) := by
  refine okP T.F_is_plain_name sc_is_plain_name 1 rfl P1.len fun cdv A outer s H E hr => ⟨_, (pss_cons (ps_if (PW.pt (pw_or (pt_not (pt_val (pe_callB (callK_isi (K := K) rfl) (by rfl) T.n_isinstance (by decide +kernel) (pa_cons (pv 0) (pa_cons (pe_bltn (v := .ty "str") (u := .type "str") (by rfl) T.n_str (by decide +kernel) rfl) pa_nil))))) (pw_or1 (pt_not (pt_chain op_le op_le pe_int (pe_callB call_lenS (by rfl) T.n_len PySem.boot_len (pa_cons (pv 0) pa_nil)) (pe_glob (v := .int 12) (by rfl) T.c_MOST_NAME ⟨_, rfl⟩)))))) (pss_one (ps_ret pe_bl)) pss_nil)
      (pss_one (ps_ret (pe_callB (callK_all (K := K) rfl rfl) (by rfl) T.n_all (by decide +kernel) (pa_cons (pe_lc (own := [("character", 1)]) (g := gName 1) (tt := tYes) (by rfl) sc_is_plain_name.nd (pi_str (pv 0)) (blkOk_by (own := [("character", 1)]) (N := ["name", "character"]) (sc := defScope s_is_plain_name) (by decide +kernel)) (fun _ _ _ _ _ => pg_name (i := 1) sc_is_plain_name.nd rfl (Or.inl rfl)) (fun _ _ _ _ _ => pts_nil) (fun _ _ _ _ _ => (pe_cmpR op_inS (pv 1) (pe_glob (v := .str "abcdefghijklmnopqrstuvwxyz0123456789") (by rfl) T.c_NAME_CHARACTERS ⟨_, rfl⟩) rfl))) pa_nil))))), fun ds hd => ?_⟩
  obtain ⟨x, rfl, hx⟩ := hd
  walk_at "pn"
  cases x
  case str z =>
    walk_at "px"
    walk_at "pi"
    · intro h1
      walk_at "px"
      walk_at "pi"
      · intro h2
        walk_at "px"
        refine r1d ?_
        show _ = PyData.bool (decide (1 ≤ z.length) && decide (z.length ≤ 12) && _)
        rw [decide_eq_false (show ¬ z.length ≤ 12 by omega), Bool.and_false, Bool.false_and]
      · intro h2
        walk_at "px"
        refine we_lcM (by walk_at "ww") rfl ?_
        walk_at "px"
        refine ⟨fun x => .bool (decide (chOf x ∈ nameChs.cps.toList)), by rw [sgn_len]; omega, fun x hx => ?_, ?_⟩
        · obtain ⟨c, rfl, hc⟩ := signs_mem hx
          walk_at "pn"
          walk_at "px"
          exact rfl
        · walk_at "px"
          refine cbP_all (bs := z.cps.toList.map fun c => decide (c ∈ nameChs.cps.toList)) (by rw [signs_map, List.map_map]; rfl) (r1d ?_)
          rw [all_map_id]
          show _ = PyData.bool (decide (1 ≤ z.length) && decide (z.length ≤ 12) && _)
          rw [decide_eq_true (show z.length ≤ 12 by omega), decide_eq_true (show 1 ≤ z.length by omega)]
          rfl
    · intro h1
      walk_at "px"
      refine r1d ?_
      show _ = PyData.bool (decide (1 ≤ z.length) && decide (z.length ≤ 12) && _)
      rw [decide_eq_false (show ¬ 1 ≤ z.length by omega), Bool.false_and, Bool.false_and]
  all_goals walk_at "px"
  all_goals walk_at "pr"
end
section
variable {P : Program} {w : World} {K : PySem.W.Frag} {mg : Str → Option Value} {base : Heap}
theorem ok_has_plain_characters (T : TX K mg w) : FnOk P w K mg base CX0 1 T.a_has_plain_characters T.d_has_plain_characters ["text"] (spP K (P1 fun x => ∃ z, x = .str z ∧ z.length ≤ 100000) (R1 fun x => .bool (match x with | .str z => z.cps.toList.all plainCh | _ => false))) := by
  refine okP T.F_has_plain_characters sc_has_plain_characters 2 rfl P1.len fun cdv A outer s H E hr => ⟨_, (pss_cons (ps_for PassesOwn.never rfl (pi_str (pv 0)) (pg_name (i := 1) sc_has_plain_characters.nd rfl (Or.inl rfl))
        (pss_cons (ps_set (i := 2) sc_has_plain_characters.nd rfl (Or.inl rfl) (pe_callB call_ordN (by rfl) T.n_ord (by decide +kernel) (pa_cons (pv 1) pa_nil)))
        (pss_one (ps_if (PW.pt (pw_or (pt_cmpR op_lt (pv 2) (pe_glob (v := .int 32) (by rfl) T.c_SPACE ⟨_, rfl⟩) (nomark _)) (pw_or (pt_cmpR op_gt (pv 2) (pe_glob (v := .int 126) (by rfl) T.c_TILDE ⟨_, rfl⟩) (nomark _)) (pw_or1 (pt_cmpR op_eq (pv 2) (pe_glob (v := .int 37) (by rfl) T.c_PERCENT ⟨_, rfl⟩) (nomark _)))))) (pss_one (ps_ret pe_bl)) pss_nil))))
      (pss_one (ps_ret pe_bl))), fun ds hd => ?_⟩
  obtain ⟨x, rfl, z, rfl, hz⟩ := hd
  walk_at "pn"
  walk_at "px"
  refine ws_for ?_
  walk_at "px"
  refine ⟨Unit, fun _ => [.d (.str z), .u, .u], fun _ => (), fun i _ => (z.cps.toList.take i).all plainCh = true, nxt () ⟨.inl rfl, .inl rfl, .inl rfl, True.intro⟩ rfl rfl, fun i x _ hx hI => ?_, fun _ hI => ?_⟩
  · obtain ⟨c, rfl, hc⟩ := signs_mem (List.mem_of_getElem? hx)
    have hc' : z.cps.toList[i]? = some c := by
      unfold signs at hx
      rw [List.getElem?_map] at hx
      cases h : z.cps.toList[i]? with
      | none => rw [h] at hx; cases hx
      | some d => rw [h] at hx; cases hx; rfl
    walk_at "px"
    have hf : plainCh c = false → z.cps.toList.all plainCh = false := fun h => by
      rw [Bool.eq_false_iff]
      intro h2
      rw [List.all_eq_true] at h2
      rw [h2 c hc] at h
      cases h
    have ht : plainCh c = true → (z.cps.toList.take (i + 1)).all plainCh = true := fun h => by
      rw [take_succ_app hc', List.all_append, hI]
      simp [h]
    walk_at "pi"
    · intro h1
      walk_at "px"
      walk_at "pi"
      · intro h2
        walk_at "px"
        walk_at "pi"
        · intro h3
          walk_at "px"
          refine r1d ?_
          exact congrArg PyData.bool (hf (by unfold plainCh; simp; omega)).symm
        · intro h3
          walk_at "px"
          exact nxt () (by walk_at "wk") rfl (ht (by unfold plainCh; simp; omega))
      · intro h2
        walk_at "px"
        refine r1d ?_
        exact congrArg PyData.bool (hf (by unfold plainCh; simp; omega)).symm
    · intro h1
      walk_at "px"
      refine r1d ?_
      exact congrArg PyData.bool (hf (by unfold plainCh; simp; omega)).symm
  · walk_at "px"
    refine r1d ?_
    have hI' : (z.cps.toList.take (signs z).length).all plainCh = true := hI
    rw [sgn_len, List.take_of_length_le (by rw [z_len]; exact Nat.le_refl _)] at hI'
    exact congrArg PyData.bool hI'.symm
theorem ok_is_text (T : TX K mg w) : FnOk P w K mg base CX0 2 T.a_is_text T.d_is_text ["text"] (spP K (P1 fun x => okx 8 x = true) (R1 fun x => .bool (isTx x))) := by
  refine okP T.F_is_text sc_is_text 0 rfl P1.len fun cdv A outer s H E hr => ⟨_, (pss_one (ps_ret (pe_and (pe_callB (callK_isi (K := K) rfl) (by rfl) T.n_isinstance (by decide +kernel) (pa_cons (pv 0) (pa_cons (pe_bltn (v := .ty "str") (u := .type "str") (by rfl) T.n_str (by decide +kernel) rfl) pa_nil))) (pe_and (pe_cmpR op_le (pe_callB call_lenS (by rfl) T.n_len PySem.boot_len (pa_cons (pv 0) pa_nil)) (pe_glob (v := .int 40) (by rfl) T.c_MOST_TEXT ⟨_, rfl⟩) (nomark _)) (pe_one (pe_call (ok_has_plain_characters T) (hr.mono (by decide)) (by rfl) T.g_has_plain_characters T.F_has_plain_characters.kp T.b_has_plain_characters .nil pass0 (pa_cons (pv 0) pa_nil))))))), fun ds hd => ?_⟩
  obtain ⟨x, rfl, hx⟩ := hd
  walk_at "pn"
  cases x
  case str z =>
    have hz := (okx_str hx).1
    walk_at "px"
    walk_at "pi"
    · intro h1
      walk_at "px"
      refine r1d ?_
      show _ = PyData.bool (decide (z.length ≤ 40) && z.cps.toList.all plainCh)
      rw [decide_eq_true (show z.length ≤ 40 by omega), Bool.true_and]
    · intro h1
      refine r1d ?_
      show _ = PyData.bool (decide (z.length ≤ 40) && z.cps.toList.all plainCh)
      rw [decide_eq_false (show ¬ z.length ≤ 40 by omega), Bool.false_and]
  all_goals walk_at "px"
  all_goals walk_at "pr"
theorem ok_is_zone (T : TX K mg w) : FnOk P w K mg base CX0 2 T.a_is_zone T.d_is_zone ["zone"] (spP K (P1 fun x => okx 8 x = true) (R1 fun x => .bool (isZo x))) := by
  refine okP T.F_is_zone sc_is_zone 0 rfl P1.len fun cdv A outer s H E hr => ⟨_, (pss_one (ps_ret (pe_or (pe_cmpR (opK_eqD (K := K) rfl hr.units) (pv 0) pe_str (nomark _)) (pe_one (pe_call (ok_is_plain_name T) (hr.mono (by decide)) (by rfl) T.g_is_plain_name T.F_is_plain_name.kp T.b_is_plain_name .nil pass0 (pa_cons (pv 0) pa_nil)))))), fun ds hd => ?_⟩
  obtain ⟨x, rfl, hx⟩ := hd
  walk_at "pn"
  walk_at "px"
  walk_at "pi"
  · intro h1
    walk_at "px"
    refine r1d ?_
    unfold isZo
    rw [h1, Bool.false_or]
  · intro h1
    refine r1d ?_
    unfold isZo
    rw [h1, Bool.true_or]
theorem sign47 {c : Nat} : decide ((⟨#[c]⟩ : Str) = "/") = decide (c = 47) := by
  rw [Bool.eq_iff_iff, decide_eq_true_iff, decide_eq_true_iff]
  have : ("/" : Str) = ⟨#[47]⟩ := by decide +kernel
  rw [this]
  constructor
  · intro h; cases h; rfl
  · intro h; rw [h]
theorem okx_cut {n : Nat} {z : Str} {lo hi : Option Int} (h : okx n (.str z) = true) : okx n (.str (cutS z lo hi)) = true := by
  obtain ⟨h1, h2⟩ := okx_str h
  unfold okx
  rw [Bool.and_eq_true]
  refine ⟨?_, decide_eq_true ?_⟩
  · unfold PyData.strOk at h2 ⊢
    unfold cutS
    rw [← Array.all_toList, List.all_eq_true] at h2 ⊢
    intro c hc
    refine h2 c ?_
    exact List.mem_of_mem_drop (List.mem_of_mem_take (by simpa using hc))
  · unfold cutS
    have h3 : z.cps.size ≤ 100000 := h1
    show (Array.size _) ≤ _
    simp
    omega
theorem ok_is_slot_name (T : TX K mg w) : FnOk P w K mg base CX0 2 T.a_is_slot_name T.d_is_slot_name ["name"] (spP K (P1 fun x => okx 8 x = true) (R1 fun x => .bool (isSl x))) := by
  refine okP T.F_is_slot_name sc_is_slot_name 0 rfl P1.len fun cdv A outer s H E hr => ⟨_, (pss_cons (ps_if (PW.pt (pw_or (pt_not (pt_val (pe_callB (callK_isi (K := K) rfl) (by rfl) T.n_isinstance (by decide +kernel) (pa_cons (pv 0) (pa_cons (pe_bltn (v := .ty "str") (u := .type "str") (by rfl) T.n_str (by decide +kernel) rfl) pa_nil))))) (pw_or1 (pt_cmpR op_lt (pe_callB call_lenS (by rfl) T.n_len PySem.boot_len (pa_cons (pv 0) pa_nil)) pe_int (nomark _))))) (pss_one (ps_ret pe_bl)) pss_nil)
      (pss_one (ps_ret (pe_and (pe_cmpR op_inS (pe_ix ix_str (pv 0) (pe_un un_neg pe_int) (fun _ _ => rfl)) (pe_glob (v := .str "0123456789") (by rfl) T.c_DIGITS ⟨_, rfl⟩) rfl) (pe_and (pe_cmpR op_eq (pe_ix ix_str (pv 0) (pe_un un_neg pe_int) (fun _ _ => rfl)) pe_str (nomark _)) (pe_one (pe_call (ok_is_plain_name T) (hr.mono (by decide)) (by rfl) T.g_is_plain_name T.F_is_plain_name.kp T.b_is_plain_name .nil pass0 (pa_cons (pe_slice sl_str (pv 0) po_none (po_some (pe_un un_neg pe_int))) pa_nil)))))))), fun ds hd => ?_⟩
  obtain ⟨x, rfl, hx⟩ := hd
  walk_at "pn"
  cases x
  case str z =>
    have hz := (okx_str hx).1
    walk_at "px"
    walk_at "pi"
    · intro h1
      walk_at "px"
      refine r1d ?_
      show _ = PyData.bool (decide (3 ≤ z.length) && _)
      rw [decide_eq_false (show ¬ 3 ≤ z.length by omega), Bool.false_and]
    · intro h1
      walk_at "px"
      refine opP_ixS (My.sz hz) (cps_ix (j := 1) (by omega) (by omega)) ?_
      walk_at "px"
      have e : isSl (.str z) = (decide (z.cps.toList.getD (z.length - 1) 0 ∈ digChs.cps.toList) && (decide (z.cps.toList.getD (z.length - 2) 0 = 47) && isNm (.str (cutS z none (some (-2)))))) := by
        show (decide (3 ≤ z.length) && _) = _
        rw [decide_eq_true (show 3 ≤ z.length by omega), Bool.true_and]
      walk_at "pi"
      · intro h2
        walk_at "px"
        refine opP_ixS (My.sz hz) (cps_ix (j := 2) (by omega) (by omega)) ?_
        walk_at "px"
        rw [sign47]
        walk_at "pi"
        · intro h3
          walk_at "px"
          refine ⟨okx_cut hx, r1d ?_⟩
          rw [e, decide_eq_true (show _ ∈ digChs.cps.toList from h2), decide_eq_true h3]
          rfl
        · intro h3
          refine r1d ?_
          rw [e, decide_eq_false h3, Bool.false_and, Bool.and_false]
      · intro h2
        refine r1d ?_
        rw [e, decide_eq_false (show ¬ _ ∈ digChs.cps.toList from h2), Bool.false_and]
  all_goals walk_at "px"
  all_goals walk_at "pr"
theorem ok_is_key (T : TX K mg w) : FnOk P w K mg base CX0 3 T.a_is_key T.d_is_key ["kind", "name"] (spP K (P2 fun k n => okx 8 k = true ∧ okx 8 n = true) (R2' fun k n => .bool (isKy k n))) := by
  refine okP T.F_is_key sc_is_key 0 rfl P2.len fun cdv A outer s H E hr => ⟨_, (pss_cons (ps_if (pt_cmpR (opK_eqD (K := K) rfl hr.units) (pv 0) pe_str (nomark _)) (pss_one (ps_ret (pe_call (ok_is_slot_name T) (hr.mono (by decide)) (by rfl) T.g_is_slot_name T.F_is_slot_name.kp T.b_is_slot_name .nil pass0 (pa_cons (pv 1) pa_nil)))) pss_nil)
      (pss_one (ps_ret (pe_and (pe_cmpR (opK_inT (K := K) rfl (hu65 hr)) (pv 0) (pe_glob (v := .ref T.ca_KINDS) (by rfl) T.c_KINDS rfl) rfl) (pe_one (pe_call (ok_is_plain_name T) (hr.mono (by decide)) (by rfl) T.g_is_plain_name T.F_is_plain_name.kp T.b_is_plain_name .nil pass0 (pa_cons (pv 1) pa_nil))))))), fun ds hd => ?_⟩
  obtain ⟨k, n, rfl, hk, hn⟩ := hd
  walk_at "pn"
  walk_at "px"
  walk_at "pi"
  · intro h1
    walk_at "px"
    refine r2d ?_
    unfold isKy
    rw [if_pos h1]
  · intro h1
    walk_at "px"
    refine we_cT T.q_KINDS rfl ?_
    walk_at "px"
    have e : isKy k n = ((kindsD.any fun z => z.eqv k) && isNm n) := by
      unfold isKy
      rw [if_neg (by rw [h1]; exact Bool.false_ne_true)]
    walk_at "pi"
    · intro h2
      walk_at "px"
      refine r2d ?_
      rw [e, show (kindsD.any fun z => z.eqv k) = true from h2, Bool.true_and]
    · intro h2
      refine r2d ?_
      rw [e, show (kindsD.any fun z => z.eqv k) = false from h2, Bool.false_and]
end
/-! the forms of values -/
def openFrom (least : Int) : List PyData → Bool
  | [] => true
  | x :: xs => intIn x least 9 && openFrom (intOf x + 1) xs
def isOpN : PyData → Bool
  | .tuple xs => openFrom 0 xs
  | _ => false
def fBeat : PyData → Bool
  | .tuple [a, b] => isCt a && isCt b
  | _ => false
def fDrain : PyData → Bool
  | .tuple [a] => isTx a
  | _ => false
def fNode : PyData → Bool
  | .tuple [a, b, c, d, e] => isCt a && (isCt b && (isCt c && (intIn d 0 1 && isZo e)))
  | _ => false
def fNote : PyData → Bool
  | .tuple [a, b, c, d] => isTx a && (isCt d && ((b.eqv c && c.eqv (.str "")) || isKy b c))
  | _ => false
def fRollout : PyData → Bool
  | .tuple [a, b] => isCt a && isOpN b
  | _ => false
def fService : PyData → Bool
  | .tuple [a, b, c, d, e] => intIn a 0 9 && (intIn d 1 9 && (isTx b && (isCt c && isZo e)))
  | _ => false
def fTask : PyData → Bool
  | .tuple [a, b, c, d, e, f, g, h] => isCt a && (isCt c && (isCt g && (isTx b && (isZo f && (isZo h && ((statesD.any fun z => z.eqv d) && intIn e 0 1))))))
  | _ => false
abbrev preTup : PyData → Prop := fun x => ∃ xs, x = .tuple xs ∧ okx 8 (.tuple xs) = true
section
variable {P : Program} {w : World} {K : PySem.W.Frag} {mg : Str → Option Value} {base : Heap}
theorem ok__is_beat (T : TX K mg w) : FnOk P w K mg base CX0 3 T.a__is_beat T.d__is_beat ["value"] (spP K (P1 preTup) (R1 fun x => .bool (fBeat x))) := by
  refine okP T.F__is_beat sc__is_beat 0 rfl P1.len fun cdv A outer s H E hr => ⟨_, (pss_cons (ps_if (pt_cmpR op_ne (pe_callB (callK_len (K := K) rfl) (by rfl) T.n_len PySem.boot_len (pa_cons (pv 0) pa_nil)) pe_int (nomark _)) (pss_one (ps_ret pe_bl)) pss_nil)
      (pss_one (ps_ret (pe_and (pe_call (ok_is_count T) (hr.mono (by decide)) (by rfl) T.g_is_count T.F_is_count.kp T.b_is_count .nil pass0 (pa_cons (pe_ix (ixK_tup (K := K) rfl) (pv 0) pe_int (fun _ _ => rfl)) pa_nil)) (pe_one (pe_call (ok_is_count T) (hr.mono (by decide)) (by rfl) T.g_is_count T.F_is_count.kp T.b_is_count .nil pass0 (pa_cons (pe_ix (ixK_tup (K := K) rfl) (pv 0) pe_int (fun _ _ => rfl)) pa_nil))))))), fun ds hd => ?_⟩
  obtain ⟨x, rfl, xs, rfl, hx⟩ := hd
  walk_at "pn"
  match xs, hx with
  | [a, b], hx =>
    walk_at "px"
    walk_at "pi"
    · intro h1
      walk_at "px"
      refine r1d ?_
      show _ = PyData.bool (isCt a && isCt b)
      rw [h1, Bool.true_and]
    · intro h1
      refine r1d ?_
      show _ = PyData.bool (isCt a && isCt b)
      rw [h1, Bool.false_and]
  | [], hx =>
    walk_at "px"
    walk_at "pr"
  | [a], hx =>
    walk_at "px"
    walk_at "pr"
  | a :: b :: c :: r, hx =>
    walk_at "px"
    walk_at "pr"
theorem ok__is_drain (T : TX K mg w) : FnOk P w K mg base CX0 3 T.a__is_drain T.d__is_drain ["value"] (spP K (P1 preTup) (R1 fun x => .bool (fDrain x))) := by
  refine okP T.F__is_drain sc__is_drain 0 rfl P1.len fun cdv A outer s H E hr => ⟨_, (pss_one (ps_ret (pe_and (pe_cmpR op_eq (pe_callB (callK_len (K := K) rfl) (by rfl) T.n_len PySem.boot_len (pa_cons (pv 0) pa_nil)) pe_int (nomark _)) (pe_one (pe_call (ok_is_text T) (hr.mono (by decide)) (by rfl) T.g_is_text T.F_is_text.kp T.b_is_text .nil pass0 (pa_cons (pe_ix (ixK_tup (K := K) rfl) (pv 0) pe_int (fun _ _ => rfl)) pa_nil)))))), fun ds hd => ?_⟩
  obtain ⟨x, rfl, xs, rfl, hx⟩ := hd
  walk_at "pn"
  match xs, hx with
  | [a], hx =>
    have ha := okx_tup hx (x := a) (by simp)
    walk_at "px"
    walk_at "pr"
  | [], hx =>
    walk_at "px"
    walk_at "pr"
  | a :: b :: r, hx =>
    walk_at "px"
    walk_at "pr"
theorem ok__is_node (T : TX K mg w) : FnOk P w K mg base CX0 3 T.a__is_node T.d__is_node ["value"] (spP K (P1 preTup) (R1 fun x => .bool (fNode x))) := by
  refine okP T.F__is_node sc__is_node 5 rfl P1.len fun cdv A outer s H E hr => ⟨_, (pss_cons (ps_if (pt_cmpR op_ne (pe_callB (callK_len (K := K) rfl) (by rfl) T.n_len PySem.boot_len (pa_cons (pv 0) pa_nil)) pe_int (nomark _)) (pss_one (ps_ret pe_bl)) pss_nil)
      (pss_cons (ps_asg (pv 0) (pgK_tup (K := K) (n := 5) rfl rfl (pgs_cons (pg_name (i := 1) sc__is_node.nd rfl (Or.inl rfl)) (pgs_cons (pg_name (i := 2) sc__is_node.nd rfl (Or.inl rfl)) (pgs_cons (pg_name (i := 3) sc__is_node.nd rfl (Or.inl rfl)) (pgs_cons (pg_name (i := 4) sc__is_node.nd rfl (Or.inl rfl)) (pgs_cons (pg_name (i := 5) sc__is_node.nd rfl (Or.inl rfl)) pgs_nil)))))))
      (pss_one (ps_ret (pe_and (pe_call (ok_is_count T) (hr.mono (by decide)) (by rfl) T.g_is_count T.F_is_count.kp T.b_is_count .nil pass0 (pa_cons (pv 1) pa_nil)) (pe_and (pe_call (ok_is_count T) (hr.mono (by decide)) (by rfl) T.g_is_count T.F_is_count.kp T.b_is_count .nil pass0 (pa_cons (pv 2) pa_nil)) (pe_and (pe_call (ok_is_count T) (hr.mono (by decide)) (by rfl) T.g_is_count T.F_is_count.kp T.b_is_count .nil pass0 (pa_cons (pv 3) pa_nil)) (pe_and (pe_call (ok_is_integer_within T) (hr.mono (by decide)) (by rfl) T.g_is_integer_within T.F_is_integer_within.kp T.b_is_integer_within .nil pass0 (pa_cons (pv 4) (pa_cons pe_int (pa_cons pe_int pa_nil)))) (pe_one (pe_call (ok_is_zone T) (hr.mono (by decide)) (by rfl) T.g_is_zone T.F_is_zone.kp T.b_is_zone .nil pass0 (pa_cons (pv 5) pa_nil))))))))))), fun ds hd => ?_⟩
  obtain ⟨x, rfl, xs, rfl, hx⟩ := hd
  walk_at "pn"
  by_cases hl : xs.length = 5
  · match xs, hl with
    | [a, b, c, d, e], _ =>
      have he := okx_tup hx (x := e) (by simp)
      walk_at "pw"
      all_goals (refine r1d ?_; show _ = PyData.bool (fNode (.tuple [a, b, c, d, e])); simp_all [fNode, intOf])
  · have e : fNode (.tuple xs) = false := by
      unfold fNode
      split
      · rename_i h; injection h with h; rw [h] at hl; simp at hl
      · rfl
    walk_at "pw"
    refine r1d ?_
    rw [e]
theorem ok__are_open_numbers (T : TX K mg w) : FnOk P w K mg base CX0 2 T.a__are_open_numbers T.d__are_open_numbers ["numbers"] (spP K (P1 fun x => okx 8 x = true) (R1 fun x => .bool (isOpN x))) := by
  refine okP T.F__are_open_numbers sc__are_open_numbers 2 rfl P1.len fun cdv A outer s H E hr => ⟨_, (pss_cons (ps_if (pt_not (pt_val (pe_callB (callK_isi (K := K) rfl) (by rfl) T.n_isinstance (by decide +kernel) (pa_cons (pv 0) (pa_cons (pe_bltn (v := .ty "tuple") (u := .type "tuple") (by rfl) T.n_tuple (by decide +kernel) rfl) pa_nil))))) (pss_one (ps_ret pe_bl)) pss_nil)
      (pss_cons (ps_set (i := 1) sc__are_open_numbers.nd rfl (Or.inl rfl) pe_int)
      (pss_cons (ps_for PassesOwn.never rfl (piK_tup (K := K) rfl (pv 0)) (pg_name (i := 2) sc__are_open_numbers.nd rfl (Or.inl rfl))
        (pss_cons (ps_if (pt_not (ptK_truth (K := K) rfl (pe_call (ok_is_integer_within T) (hr.mono (by decide)) (by rfl) T.g_is_integer_within T.F_is_integer_within.kp T.b_is_integer_within .nil pass0 (pa_cons (pv 2) (pa_cons (pv 1) (pa_cons (pe_glob (v := .int 9) (by rfl) T.c_MOST_NUMBER ⟨_, rfl⟩) pa_nil)))) (by intro _; rfl))) (pss_one (ps_ret pe_bl)) pss_nil)
        (pss_one (ps_set (i := 1) sc__are_open_numbers.nd rfl (Or.inl rfl) (pe_op op_add (pv 2) pe_int)))))
      (pss_one (ps_ret pe_bl))))), fun ds hd => ?_⟩
  obtain ⟨x, rfl, hx⟩ := hd
  walk_at "pn"
  cases x
  case tuple xs =>
    walk_at "px"
    refine ws_for ?_
    walk_at "px"
    refine ⟨Int, fun l => [.d (.tuple xs), .d (.int l), .u], fun _ => (), fun i l => openFrom 0 xs = openFrom l (xs.drop i), nxt 0 (by walk_at "wk") rfl rfl, fun i x l hx hI => ?_, fun l hI => ?_⟩
    · have hd : xs.drop i = x :: xs.drop (i + 1) := by
        have hi := (List.getElem?_eq_some_iff.mp hx)
        rw [List.drop_eq_getElem_cons hi.1, hi.2]
      have hI' : openFrom 0 xs = (intIn x l 9 && openFrom (intOf x + 1) (xs.drop (i + 1))) := by rw [show openFrom 0 xs = _ from hI, hd]; rfl
      have hf : intIn x l 9 = false → isOpN (.tuple xs) = false := fun h => by
        show openFrom 0 xs = false
        rw [hI', h, Bool.false_and]
      cases x
      case int j =>
        walk_at "px"
        walk_at "pi"
        · intro h1
          walk_at "px"
          exact r1d (congrArg PyData.bool (hf h1).symm)
        · intro h1
          walk_at "px"
          exact nxt (j + 1) (by walk_at "wk") rfl (by show openFrom 0 xs = _; rw [hI', show intIn (.int j) l 9 = true from h1, Bool.true_and]; rfl)
      all_goals walk_at "px"
      all_goals exact r1d (congrArg PyData.bool (hf rfl).symm)
    · have hI' : openFrom 0 xs = openFrom l (xs.drop xs.length) := hI
      rw [List.drop_length] at hI'
      walk_at "px"
      exact r1d (congrArg PyData.bool hI'.symm)
  all_goals walk_at "px"
  all_goals walk_at "pr"
theorem ok__is_rollout (T : TX K mg w) : FnOk P w K mg base CX0 3 T.a__is_rollout T.d__is_rollout ["value"] (spP K (P1 preTup) (R1 fun x => .bool (fRollout x))) := by
  refine okP T.F__is_rollout sc__is_rollout 0 rfl P1.len fun cdv A outer s H E hr => ⟨_, (pss_one (ps_ret (pe_and (pe_cmpR op_eq (pe_callB (callK_len (K := K) rfl) (by rfl) T.n_len PySem.boot_len (pa_cons (pv 0) pa_nil)) pe_int (nomark _)) (pe_and (pe_call (ok_is_count T) (hr.mono (by decide)) (by rfl) T.g_is_count T.F_is_count.kp T.b_is_count .nil pass0 (pa_cons (pe_ix (ixK_tup (K := K) rfl) (pv 0) pe_int (fun _ _ => rfl)) pa_nil)) (pe_one (pe_call (ok__are_open_numbers T) (hr.mono (by decide)) (by rfl) T.g__are_open_numbers T.F__are_open_numbers.kp T.b__are_open_numbers .nil pass0 (pa_cons (pe_ix (ixK_tup (K := K) rfl) (pv 0) pe_int (fun _ _ => rfl)) pa_nil))))))), fun ds hd => ?_⟩
  obtain ⟨x, rfl, xs, rfl, hx⟩ := hd
  walk_at "pn"
  by_cases hl : xs.length = 2
  · match xs, hl with
    | [a, b], _ =>
      have hb := okx_tup hx (x := b) (by simp)
      walk_at "pw"
      all_goals (refine r1d ?_; show _ = PyData.bool (fRollout (.tuple [a, b])); simp_all [fRollout, intOf])
  · have e : fRollout (.tuple xs) = false := by
      unfold fRollout
      split
      · rename_i h; injection h with h; rw [h] at hl; simp at hl
      · rfl
    walk_at "pw"
    refine r1d ?_
    rw [e]
theorem ok__is_service (T : TX K mg w) : FnOk P w K mg base CX0 3 T.a__is_service T.d__is_service ["value"] (spP K (P1 preTup) (R1 fun x => .bool (fService x))) := by
  refine okP T.F__is_service sc__is_service 5 rfl P1.len fun cdv A outer s H E hr => ⟨_, (pss_cons (ps_if (pt_cmpR op_ne (pe_callB (callK_len (K := K) rfl) (by rfl) T.n_len PySem.boot_len (pa_cons (pv 0) pa_nil)) pe_int (nomark _)) (pss_one (ps_ret pe_bl)) pss_nil)
      (pss_cons (ps_asg (pv 0) (pgK_tup (K := K) (n := 5) rfl rfl (pgs_cons (pg_name (i := 1) sc__is_service.nd rfl (Or.inl rfl)) (pgs_cons (pg_name (i := 2) sc__is_service.nd rfl (Or.inl rfl)) (pgs_cons (pg_name (i := 3) sc__is_service.nd rfl (Or.inl rfl)) (pgs_cons (pg_name (i := 4) sc__is_service.nd rfl (Or.inl rfl)) (pgs_cons (pg_name (i := 5) sc__is_service.nd rfl (Or.inl rfl)) pgs_nil)))))))
      (pss_cons (ps_if (PW.pt (pw_or (pt_not (ptK_truth (K := K) rfl (pe_call (ok_is_integer_within T) (hr.mono (by decide)) (by rfl) T.g_is_integer_within T.F_is_integer_within.kp T.b_is_integer_within .nil pass0 (pa_cons (pv 1) (pa_cons pe_int (pa_cons (pe_glob (v := .int 9) (by rfl) T.c_MOST_NUMBER ⟨_, rfl⟩) pa_nil)))) (by intro _; rfl))) (pw_or1 (pt_not (ptK_truth (K := K) rfl (pe_call (ok_is_integer_within T) (hr.mono (by decide)) (by rfl) T.g_is_integer_within T.F_is_integer_within.kp T.b_is_integer_within .nil pass0 (pa_cons (pv 4) (pa_cons pe_int (pa_cons (pe_glob (v := .int 9) (by rfl) T.c_MOST_NUMBER ⟨_, rfl⟩) pa_nil)))) (by intro _; rfl)))))) (pss_one (ps_ret pe_bl)) pss_nil)
      (pss_one (ps_ret (pe_and (pe_call (ok_is_text T) (hr.mono (by decide)) (by rfl) T.g_is_text T.F_is_text.kp T.b_is_text .nil pass0 (pa_cons (pv 2) pa_nil)) (pe_and (pe_call (ok_is_count T) (hr.mono (by decide)) (by rfl) T.g_is_count T.F_is_count.kp T.b_is_count .nil pass0 (pa_cons (pv 3) pa_nil)) (pe_one (pe_call (ok_is_zone T) (hr.mono (by decide)) (by rfl) T.g_is_zone T.F_is_zone.kp T.b_is_zone .nil pass0 (pa_cons (pv 5) pa_nil)))))))))), fun ds hd => ?_⟩
  obtain ⟨x, rfl, xs, rfl, hx⟩ := hd
  walk_at "pn"
  by_cases hl : xs.length = 5
  · match xs, hl with
    | [a, b, c, d, e], _ =>
      have hb := okx_tup hx (x := b) (by simp)
      have he := okx_tup hx (x := e) (by simp)
      walk_at "pw"
      all_goals (refine r1d ?_; show _ = PyData.bool (fService (.tuple [a, b, c, d, e])); simp_all [fService, intOf])
  · have e : fService (.tuple xs) = false := by
      unfold fService
      split
      · rename_i h; injection h with h; rw [h] at hl; simp at hl
      · rfl
    walk_at "pw"
    refine r1d ?_
    rw [e]
theorem ok__is_note (T : TX K mg w) : FnOk P w K mg base CX0 4 T.a__is_note T.d__is_note ["value"] (spP K (P1 preTup) (R1 fun x => .bool (fNote x))) := by
  refine okP T.F__is_note sc__is_note 4 rfl P1.len fun cdv A outer s H E hr => ⟨_, (pss_cons (ps_if (pt_cmpR op_ne (pe_callB (callK_len (K := K) rfl) (by rfl) T.n_len PySem.boot_len (pa_cons (pv 0) pa_nil)) pe_int (nomark _)) (pss_one (ps_ret pe_bl)) pss_nil)
      (pss_cons (ps_asg (pv 0) (pgK_tup (K := K) (n := 4) rfl rfl (pgs_cons (pg_name (i := 1) sc__is_note.nd rfl (Or.inl rfl)) (pgs_cons (pg_name (i := 2) sc__is_note.nd rfl (Or.inl rfl)) (pgs_cons (pg_name (i := 3) sc__is_note.nd rfl (Or.inl rfl)) (pgs_cons (pg_name (i := 4) sc__is_note.nd rfl (Or.inl rfl)) pgs_nil))))))
      (pss_cons (ps_if (PW.pt (pw_or (pt_not (ptK_truth (K := K) rfl (pe_call (ok_is_text T) (hr.mono (by decide)) (by rfl) T.g_is_text T.F_is_text.kp T.b_is_text .nil pass0 (pa_cons (pv 1) pa_nil)) (by intro _; rfl))) (pw_or1 (pt_not (ptK_truth (K := K) rfl (pe_call (ok_is_count T) (hr.mono (by decide)) (by rfl) T.g_is_count T.F_is_count.kp T.b_is_count .nil pass0 (pa_cons (pv 4) pa_nil)) (by intro _; rfl)))))) (pss_one (ps_ret pe_bl)) pss_nil)
      (pss_one (ps_ret (pe_or (pe_chain (opK_eqD (K := K) rfl hr.units) (opK_eqD (K := K) rfl hr.units) (pv 2) (pv 3) pe_str) (pe_one (pe_call (ok_is_key T) (hr.mono (by decide)) (by rfl) T.g_is_key T.F_is_key.kp T.b_is_key .nil pass0 (pa_cons (pv 2) (pa_cons (pv 3) pa_nil)))))))))), fun ds hd => ?_⟩
  obtain ⟨x, rfl, xs, rfl, hx⟩ := hd
  walk_at "pn"
  by_cases hl : xs.length = 4
  · match xs, hl with
    | [a, b, c, d], _ =>
      have ha := okx_tup hx (x := a) (by simp)
      have hb := okx_tup hx (x := b) (by simp)
      have hc := okx_tup hx (x := c) (by simp)
      walk_at "pw"
      all_goals (refine r1d ?_; show _ = PyData.bool (fNote (.tuple [a, b, c, d])); simp_all [fNote, intOf])
  · have e : fNote (.tuple xs) = false := by
      unfold fNote
      split
      · rename_i h; injection h with h; rw [h] at hl; simp at hl
      · rfl
    walk_at "pw"
    refine r1d ?_
    rw [e]
theorem ok__is_task (T : TX K mg w) : FnOk P w K mg base CX0 3 T.a__is_task T.d__is_task ["value"] (spP K (P1 preTup) (R1 fun x => .bool (fTask x))) := by
  refine okP T.F__is_task sc__is_task 8 rfl P1.len fun cdv A outer s H E hr => ⟨_, (pss_cons (ps_if (pt_cmpR op_ne (pe_callB (callK_len (K := K) rfl) (by rfl) T.n_len PySem.boot_len (pa_cons (pv 0) pa_nil)) pe_int (nomark _)) (pss_one (ps_ret pe_bl)) pss_nil)
      (pss_cons (ps_asg (pv 0) (pgK_tup (K := K) (n := 8) rfl rfl (pgs_cons (pg_name (i := 1) sc__is_task.nd rfl (Or.inl rfl)) (pgs_cons (pg_name (i := 2) sc__is_task.nd rfl (Or.inl rfl)) (pgs_cons (pg_name (i := 3) sc__is_task.nd rfl (Or.inl rfl)) (pgs_cons (pg_name (i := 4) sc__is_task.nd rfl (Or.inl rfl)) (pgs_cons (pg_name (i := 5) sc__is_task.nd rfl (Or.inl rfl)) (pgs_cons (pg_name (i := 6) sc__is_task.nd rfl (Or.inl rfl)) (pgs_cons (pg_name (i := 7) sc__is_task.nd rfl (Or.inl rfl)) (pgs_cons (pg_name (i := 8) sc__is_task.nd rfl (Or.inl rfl)) pgs_nil))))))))))
      (pss_cons (ps_if (PW.pt (pw_or (pt_not (ptK_truth (K := K) rfl (pe_call (ok_is_count T) (hr.mono (by decide)) (by rfl) T.g_is_count T.F_is_count.kp T.b_is_count .nil pass0 (pa_cons (pv 1) pa_nil)) (by intro _; rfl))) (pw_or (pt_not (ptK_truth (K := K) rfl (pe_call (ok_is_count T) (hr.mono (by decide)) (by rfl) T.g_is_count T.F_is_count.kp T.b_is_count .nil pass0 (pa_cons (pv 3) pa_nil)) (by intro _; rfl))) (pw_or1 (pt_not (ptK_truth (K := K) rfl (pe_call (ok_is_count T) (hr.mono (by decide)) (by rfl) T.g_is_count T.F_is_count.kp T.b_is_count .nil pass0 (pa_cons (pv 7) pa_nil)) (by intro _; rfl))))))) (pss_one (ps_ret pe_bl)) pss_nil)
      (pss_cons (ps_if (PW.pt (pw_or (pt_not (ptK_truth (K := K) rfl (pe_call (ok_is_text T) (hr.mono (by decide)) (by rfl) T.g_is_text T.F_is_text.kp T.b_is_text .nil pass0 (pa_cons (pv 2) pa_nil)) (by intro _; rfl))) (pw_or (pt_not (ptK_truth (K := K) rfl (pe_call (ok_is_zone T) (hr.mono (by decide)) (by rfl) T.g_is_zone T.F_is_zone.kp T.b_is_zone .nil pass0 (pa_cons (pv 6) pa_nil)) (by intro _; rfl))) (pw_or1 (pt_not (ptK_truth (K := K) rfl (pe_call (ok_is_zone T) (hr.mono (by decide)) (by rfl) T.g_is_zone T.F_is_zone.kp T.b_is_zone .nil pass0 (pa_cons (pv 8) pa_nil)) (by intro _; rfl))))))) (pss_one (ps_ret pe_bl)) pss_nil)
      (pss_one (ps_ret (pe_and (pe_cmpR (opK_inT (K := K) rfl (hu65 hr)) (pv 4) (pe_glob (v := .ref T.ca_STATES) (by rfl) T.c_STATES rfl) rfl) (pe_one (pe_call (ok_is_integer_within T) (hr.mono (by decide)) (by rfl) T.g_is_integer_within T.F_is_integer_within.kp T.b_is_integer_within .nil pass0 (pa_cons (pv 5) (pa_cons pe_int (pa_cons pe_int pa_nil)))))))))))), fun ds hd => ?_⟩
  obtain ⟨x, rfl, xs, rfl, hx⟩ := hd
  walk_at "pn"
  by_cases hl : xs.length = 8
  · match xs, hl with
    | [a, b, c, d, e, f, g, h], _ =>
      have hb := okx_tup hx (x := b) (by simp)
      have hd := okx_tup hx (x := d) (by simp)
      have hf := okx_tup hx (x := f) (by simp)
      have hh := okx_tup hx (x := h) (by simp)
      walk_at "pw"
      all_goals try (refine we_cT T.q_STATES rfl ?_; walk_at "pw")
      all_goals (refine r1d ?_; show _ = PyData.bool (fTask (.tuple [a, b, c, d, e, f, g, h])); simp_all [fTask, intOf, statesD, sc])
  · have e : fTask (.tuple xs) = false := by
      unfold fTask
      split
      · rename_i h; injection h with h; rw [h] at hl; simp at hl
      · rfl
    walk_at "pw"
    refine r1d ?_
    rw [e]
end
/-! objects -/
def formOf (z : Str) : PyData → Bool :=
  if z = "beat" then fBeat else if z = "drain" then fDrain else if z = "node" then fNode else if z = "note" then fNote else if z = "rollout" then fRollout else if z = "service" then fService else fTask
def isObj (k n v : PyData) : Bool := isKy k n && (isTupD v && match k with | .str z => formOf z v | _ => false)
def kindNames : List Str := ["beat", "drain", "node", "note", "rollout", "service", "task"]
theorem eqv_strR {d : PyData} {t : Str} (h : d.eqv (.str t) = true) : d = .str t := by
  cases d with
  | str z => unfold PyData.eqv at h; rw [beq_iff_eq] at h; rw [h]
  | _ => unfold PyData.eqv at h; cases h
theorem eqv_strL {d : PyData} {t : Str} (h : (PyData.str t).eqv d = true) : d = .str t := by
  cases d with
  | str z => unfold PyData.eqv at h; rw [beq_iff_eq] at h; rw [h]
  | _ => unfold PyData.eqv at h; cases h
theorem isKy_kind {k n : PyData} (h : isKy k n = true) : ∃ z ∈ kindNames, k = .str z := by
  unfold isKy at h
  split at h
  · next he => exact ⟨_, by decide, eqv_strR he⟩
  · rw [Bool.and_eq_true, List.any_eq_true] at h
    obtain ⟨⟨z, hz, he⟩, _⟩ := h
    simp only [kindsD, List.mem_cons, List.not_mem_nil, or_false] at hz
    rcases hz with rfl | rfl | rfl | rfl | rfl | rfl | rfl <;> exact ⟨_, by decide, eqv_strL he⟩
section
variable {P : Program} {w : World} {K : PySem.W.Frag} {mg : Str → Option Value} {base : Heap}
theorem form_fn (T : TX K mg w) (z : Str) (hz : z ∈ kindNames) : ∃ (k : Nat) (fa : Addr) (fd : FuncData), k + 1 ≤ 5 ∧ FnOk P w K mg base CX0 k fa fd ["value"] (spP K (P1 preTup) (R1 fun x => .bool (formOf z x))) ∧ PySem.W.keepIn K (.ref fa) = true ∧ Binds K fd ["value"] [] ∧ PySem.W.nsIn K T.ca_VALUE_FORMS z = some (some (.ref fa)) := by
  simp only [kindNames, List.mem_cons, List.not_mem_nil, or_false] at hz
  rcases hz with rfl | rfl | rfl | rfl | rfl | rfl | rfl
  · exact ⟨_, _, _, by decide, ok__is_beat T, T.F__is_beat.kp, T.b__is_beat, T.j_VALUE_FORMS_beat⟩
  · exact ⟨_, _, _, by decide, ok__is_drain T, T.F__is_drain.kp, T.b__is_drain, T.j_VALUE_FORMS_drain⟩
  · exact ⟨_, _, _, by decide, ok__is_node T, T.F__is_node.kp, T.b__is_node, T.j_VALUE_FORMS_node⟩
  · exact ⟨_, _, _, by decide, ok__is_note T, T.F__is_note.kp, T.b__is_note, T.j_VALUE_FORMS_note⟩
  · exact ⟨_, _, _, by decide, ok__is_rollout T, T.F__is_rollout.kp, T.b__is_rollout, T.j_VALUE_FORMS_rollout⟩
  · exact ⟨_, _, _, by decide, ok__is_service T, T.F__is_service.kp, T.b__is_service, T.j_VALUE_FORMS_service⟩
  · exact ⟨_, _, _, by decide, ok__is_task T, T.F__is_task.kp, T.b__is_task, T.j_VALUE_FORMS_task⟩
theorem ok_is_object (T : TX K mg w) : FnOk P w K mg base CX0 5 T.a_is_object T.d_is_object ["kind", "name", "value"] (spP K (P3 fun k n v => okx 8 k = true ∧ okx 8 n = true ∧ okx 8 v = true) (R3 fun k n v => .bool (isObj k n v))) := by
  refine okPd T.F_is_object sc_is_object 1 rfl P3.len fun cdv A outer s H E hr ds hd => ?_
  obtain ⟨k, n, v, rfl, hk, hn, hv⟩ := hd
  obtain ⟨z, hz, hkz⟩ : ∃ z ∈ kindNames, isKy k n = true → k = .str z := by
    by_cases h : isKy k n = true
    · obtain ⟨z, h1, h2⟩ := isKy_kind h
      exact ⟨z, h1, fun _ => h2⟩
    · exact ⟨"beat", by decide, fun z => absurd z h⟩
  obtain ⟨lv, fa, fd, hlL', hlF, hlK, hlB, hj⟩ := form_fn (P := P) (w := w) (base := base) T z hz
  have hlL := Nat.le_of_succ_le_succ hlL'
  refine ⟨_, (pss_cons (ps_if (PW.pt (pw_or (pt_not (ptK_truth (K := K) rfl (pe_call (ok_is_key T) (hr.mono (by decide)) (by rfl) T.g_is_key T.F_is_key.kp T.b_is_key .nil pass0 (pa_cons (pv 0) (pa_cons (pv 1) pa_nil))) (by intro _; rfl))) (pw_or1 (pt_not (pt_val (pe_callB (callK_isi (K := K) rfl) (by rfl) T.n_isinstance (by decide +kernel) (pa_cons (pv 2) (pa_cons (pe_bltn (v := .ty "tuple") (u := .type "tuple") (by rfl) T.n_tuple (by decide +kernel) rfl) pa_nil)))))))) (pss_one (ps_ret pe_bl)) pss_nil)
      (pss_cons (ps_set (i := 3) sc_is_object.nd rfl (Or.inl rfl) (pe_ix (ixK_kd (K := K) rfl T.D_VALUE_FORMS) (pe_glob (v := .ref T.ca_VALUE_FORMS) (by rfl) T.c_VALUE_FORMS rfl) (pv 0) (fun _ _ => rfl)))
      (pss_one (ps_ret (pe_callL (i := 3) hlF (hr.mono hlL) rfl (Or.inl rfl) hlK hlB .nil pass0 (pa_cons (pv 2) pa_nil)))))), ?_⟩
  walk_at "pn"
  walk_at "px"
  walk_at "pi"
  · intro h1
    have e := hkz h1
    walk_at "px"
    cases v
    case tuple xs =>
      walk_at "px"
      refine we_cV ?_
      rw [e]
      walk_at "px"
      refine opP_kd hj ?_
      walk_at "px"
      refine we_callL1 rfl ?_
      walk_at "px"
      refine r3d ?_
      show _ = PyData.bool (isKy (.str z) n && (true && formOf z (.tuple xs)))
      rw [show isKy (.str z) n = true by rw [← e]; exact h1]
      rfl
    all_goals walk_at "px"
    all_goals (refine r3d ?_; show _ = PyData.bool (isKy k n && (false && _)); rw [Bool.false_and, Bool.and_false])
  · intro h1
    walk_at "px"
    refine r3d ?_
    show _ = PyData.bool (isKy k n && _)
    rw [h1, Bool.false_and]
end
/-! transactions -/
def isTupN (x y : PyData) : Bool := match x with
  | .tuple xs => decide ((xs.length : Int) = intOf y)
  | _ => false
def isCond : PyData → Bool
  | .tuple [k, n, r] => isKy k n && isCt r
  | _ => false
def isPut : PyData → Bool
  | .tuple [k, n, v] => isObj k n v
  | _ => false
def isDel : PyData → Bool
  | .tuple [k, n] => isKy k n
  | _ => false
def keyOf : PyData → List Key
  | .tuple [.str a, .str b] => [.inr a, .inr b]
  | _ => []
def distD (ks : List PyData) : Bool := decide ((ks.map keyOf).Nodup)
def is2S (k : PyData) : Prop := ∃ a b, k = .tuple [.str a, .str b]
theorem valV_mem {kvs : List (List Key × V)} {k : List Key} : (valV kvs k).isSome = true ↔ k ∈ kvs.map Prod.fst := by
  unfold valV
  rw [Option.isSome_map, List.find?_isSome, List.mem_map]
  constructor
  · rintro ⟨x, h1, h2⟩; exact ⟨x, h1, of_decide_eq_true h2⟩
  · rintro ⟨x, h1, h2⟩; exact ⟨x, h1, decide_eq_true h2⟩
theorem putK_new {kvs : List (List Key × V)} {k : List Key} {v : V} (h : k ∉ kvs.map Prod.fst) : putK kvs k v = kvs ++ [(k, v)] := by
  unfold putK
  rw [if_neg]
  intro h2
  rw [List.any_eq_true] at h2
  obtain ⟨x, h3, h4⟩ := h2
  exact h (List.mem_map.mpr ⟨x, h3, of_decide_eq_true h4⟩)
section
variable {P : Program} {w : World} {K : PySem.W.Frag} {mg : Str → Option Value} {base : Heap}
theorem ok__is_tuple_of (T : TX K mg w) : FnOk P w K mg base CX0 1 T.a__is_tuple_of T.d__is_tuple_of ["value", "size"] (spP K (P2 fun x y => ∃ n, y = .int n) (R2' fun x y => .bool (isTupN x y))) := by
  refine okP T.F__is_tuple_of sc__is_tuple_of 0 rfl P2.len fun cdv A outer s H E hr => ⟨_, (pss_one (ps_ret (pe_and (pe_callB (callK_isi (K := K) rfl) (by rfl) T.n_isinstance (by decide +kernel) (pa_cons (pv 0) (pa_cons (pe_bltn (v := .ty "tuple") (u := .type "tuple") (by rfl) T.n_tuple (by decide +kernel) rfl) pa_nil))) (pe_one (pe_cmpR op_eq (pe_callB (callK_len (K := K) rfl) (by rfl) T.n_len PySem.boot_len (pa_cons (pv 0) pa_nil)) (pv 1) (nomark _)))))), fun ds hd => ?_⟩
  obtain ⟨x, y, rfl, n, rfl⟩ := hd
  walk_at "pn"
  cases x
  all_goals walk_at "px"
  all_goals walk_at "pr"
theorem ok__is_condition (T : TX K mg w) : FnOk P w K mg base CX0 4 T.a__is_condition T.d__is_condition ["condition"] (spP K (P1 fun x => okx 8 x = true) (R1 fun x => .bool (isCond x))) := by
  refine okP T.F__is_condition sc__is_condition 0 rfl P1.len fun cdv A outer s H E hr => ⟨_, (pss_one (ps_ret (pe_and (pe_call (ok__is_tuple_of T) (hr.mono (by decide)) (by rfl) T.g__is_tuple_of T.F__is_tuple_of.kp T.b__is_tuple_of .nil pass0 (pa_cons (pv 0) (pa_cons pe_int pa_nil))) (pe_and (pe_call (ok_is_key T) (hr.mono (by decide)) (by rfl) T.g_is_key T.F_is_key.kp T.b_is_key .nil pass0 (pa_cons (pe_ix (ixK_tup (K := K) rfl) (pv 0) pe_int (fun _ _ => rfl)) (pa_cons (pe_ix (ixK_tup (K := K) rfl) (pv 0) pe_int (fun _ _ => rfl)) pa_nil))) (pe_one (pe_call (ok_is_count T) (hr.mono (by decide)) (by rfl) T.g_is_count T.F_is_count.kp T.b_is_count .nil pass0 (pa_cons (pe_ix (ixK_tup (K := K) rfl) (pv 0) pe_int (fun _ _ => rfl)) pa_nil))))))), fun ds hd => ?_⟩
  obtain ⟨x, rfl, hx⟩ := hd
  walk_at "pn"
  cases x
  case tuple xs =>
    by_cases hl : xs.length = 3
    · match xs, hl with
      | [a, b, c], _ =>
        have ha := okx_tup hx (x := a) (by simp)
        have hb := okx_tup hx (x := b) (by simp)
        walk_at "pw"
        all_goals (refine r1d ?_; show _ = PyData.bool (isCond (.tuple [a, b, c])); simp_all [isCond, isTupN, intOf])
    · have e : isCond (.tuple xs) = false := by
        unfold isCond
        split
        · rename_i h; injection h with h; rw [h] at hl; simp at hl
        · rfl
      have e2 : isTupN (.tuple xs) (.int 3) = false := decide_eq_false (by show ¬ (xs.length : Int) = 3; omega)
      walk_at "px"
      rw [e2]
      walk_at "px"
      refine r1d ?_
      rw [e]
  all_goals walk_at "px"
  all_goals walk_at "pr"
theorem ok__is_put (T : TX K mg w) : FnOk P w K mg base CX0 6 T.a__is_put T.d__is_put ["put"] (spP K (P1 fun x => okx 8 x = true) (R1 fun x => .bool (isPut x))) := by
  refine okP T.F__is_put sc__is_put 0 rfl P1.len fun cdv A outer s H E hr => ⟨_, (pss_one (ps_ret (pe_and (pe_call (ok__is_tuple_of T) (hr.mono (by decide)) (by rfl) T.g__is_tuple_of T.F__is_tuple_of.kp T.b__is_tuple_of .nil pass0 (pa_cons (pv 0) (pa_cons pe_int pa_nil))) (pe_one (pe_call (ok_is_object T) (hr.mono (by decide)) (by rfl) T.g_is_object T.F_is_object.kp T.b_is_object .nil pass0 (pa_cons (pe_ix (ixK_tup (K := K) rfl) (pv 0) pe_int (fun _ _ => rfl)) (pa_cons (pe_ix (ixK_tup (K := K) rfl) (pv 0) pe_int (fun _ _ => rfl)) (pa_cons (pe_ix (ixK_tup (K := K) rfl) (pv 0) pe_int (fun _ _ => rfl)) pa_nil)))))))), fun ds hd => ?_⟩
  obtain ⟨x, rfl, hx⟩ := hd
  walk_at "pn"
  cases x
  case tuple xs =>
    by_cases hl : xs.length = 3
    · match xs, hl with
      | [a, b, c], _ =>
        have ha := okx_tup hx (x := a) (by simp)
        have hb := okx_tup hx (x := b) (by simp)
        have hc := okx_tup hx (x := c) (by simp)
        walk_at "pw"
        all_goals (refine r1d ?_; show _ = PyData.bool (isPut (.tuple [a, b, c])); simp_all [isPut, isTupN, intOf])
    · have e : isPut (.tuple xs) = false := by
        unfold isPut
        split
        · rename_i h; injection h with h; rw [h] at hl; simp at hl
        · rfl
      have e2 : isTupN (.tuple xs) (.int 3) = false := decide_eq_false (by show ¬ (xs.length : Int) = 3; omega)
      walk_at "px"
      rw [e2]
      walk_at "px"
      refine r1d ?_
      rw [e]
  all_goals walk_at "px"
  all_goals walk_at "pr"
theorem ok__is_delete (T : TX K mg w) : FnOk P w K mg base CX0 4 T.a__is_delete T.d__is_delete ["delete"] (spP K (P1 fun x => okx 8 x = true) (R1 fun x => .bool (isDel x))) := by
  refine okP T.F__is_delete sc__is_delete 0 rfl P1.len fun cdv A outer s H E hr => ⟨_, (pss_one (ps_ret (pe_and (pe_call (ok__is_tuple_of T) (hr.mono (by decide)) (by rfl) T.g__is_tuple_of T.F__is_tuple_of.kp T.b__is_tuple_of .nil pass0 (pa_cons (pv 0) (pa_cons pe_int pa_nil))) (pe_one (pe_call (ok_is_key T) (hr.mono (by decide)) (by rfl) T.g_is_key T.F_is_key.kp T.b_is_key .nil pass0 (pa_cons (pe_ix (ixK_tup (K := K) rfl) (pv 0) pe_int (fun _ _ => rfl)) (pa_cons (pe_ix (ixK_tup (K := K) rfl) (pv 0) pe_int (fun _ _ => rfl)) pa_nil))))))), fun ds hd => ?_⟩
  obtain ⟨x, rfl, hx⟩ := hd
  walk_at "pn"
  cases x
  case tuple xs =>
    by_cases hl : xs.length = 2
    · match xs, hl with
      | [a, b], _ =>
        have ha := okx_tup hx (x := a) (by simp)
        have hb := okx_tup hx (x := b) (by simp)
        walk_at "pw"
        all_goals (refine r1d ?_; show _ = PyData.bool (isDel (.tuple [a, b])); simp_all [isDel, isTupN, intOf])
    · have e : isDel (.tuple xs) = false := by
        unfold isDel
        split
        · rename_i h; injection h with h; rw [h] at hl; simp at hl
        · rfl
      have e2 : isTupN (.tuple xs) (.int 2) = false := decide_eq_false (by show ¬ (xs.length : Int) = 2; omega)
      walk_at "px"
      rw [e2]
      walk_at "px"
      refine r1d ?_
      rw [e]
  all_goals walk_at "px"
  all_goals walk_at "pr"
theorem ok__are_distinct (T : TX K mg w) : FnOk P w K mg base CX0 1 T.a__are_distinct T.d__are_distinct ["keys"] (spP K (P1 fun x => ∃ ks, x = .list ks ∧ ks.length ≤ 1000 ∧ ∀ k ∈ ks, is2S k) (R1 fun x => .bool (match x with | .list ks => distD ks | _ => false))) := by
  refine T.F__are_distinct.ok sc__are_distinct (fun vs H Q E h => ?_) (fun cdv A outer s H vs Q E hr h => ?_)
  · obtain ⟨ds, B, hd, hB, ⟨x, rfl, _⟩, _⟩ := h
    exact dqa_len hd
  · obtain ⟨_, B, hd, hB, ⟨x, rfl, ks, rfl, hl, hk⟩, q⟩ := h
    obtain ⟨p, us, rfl, hp, hv⟩ : ∃ p us, vs = [.ref p] ∧ B p = some (.lst us) ∧ DqAll K B us ks := by
      cases hd with
      | cons h1 h2 => cases h2; obtain ⟨p, us, rfl, h3, h4⟩ := dq_lst h1; exact ⟨p, us, rfl, h3, h4⟩
    have lu := dqa_len hv
    refine ⟨_, (pss_cons (ps_set (i := 1) sc__are_distinct.nd rfl (Or.inl rfl) pe_dnewT)
      (pss_cons (ps_for PassesOwn.never rfl (pi_list (pv 0)) (pg_name (i := 2) sc__are_distinct.nd rfl (Or.inl rfl))
        (pss_cons (ps_if (pt_cmp (pc_din (hu_of hr) (pv 2) (pv 1))) (pss_one (ps_ret pe_bl)) pss_nil)
        (pss_one (ps_dput (hu_of hr) (pv 1) (pv 2) pe_bl rfl))))
      (pss_one (ps_ret pe_bl)))), ?_⟩
    intro o ho
    have s1 := same_upd (o := .dT []) ho
    have out : ∀ (b : Bool) G, b = distD ks → Same H G → Q (.bl b) G := fun b G e sG => q (.bl b) (.d (.bool b)) G B (fun x hx => by cases hx; rw [e]) sG (Same.refl _) (hB.trans sG) (fun _ _ h => h) (.bl b)
    refine ⟨_, rfl, p, rfl, ⟨us, sql (s1 _ _ (hB _ _ hp))⟩, for_list (K := K) (a := p) (xs := us) (fun i σ G => ∃ (kvs : List (List Key × V)) (x2 : Option V), σ = [some (.ref p), some (.ref o), x2] ∧ Same H G ∧ G o = some (.dT kvs) ∧ kvs.map Prod.fst = (ks.take i).map keyOf ∧ ((ks.take i).map keyOf).Nodup)
      ⟨[], none, rfl, s1, upd_same, rfl, .nil⟩ (fun i σ G _ ⟨_, _, _, sG, _⟩ => sql (sG _ _ (hB _ _ hp))) ?_ ?_⟩
    · rintro i v σ G hx ⟨kvs, x2, rfl, sG, ho2, hkv, hnd⟩
      obtain ⟨k, hki, hdk⟩ := dqa_atV hv hx
      obtain ⟨a, b, rfl⟩ := hk k (List.mem_of_getElem? hki)
      obtain ⟨t, ws, rfl, ht, hw⟩ := dq_tupH hdk
      have ew : ws = [.str a, .str b] := by
        cases hw with
        | cons h1 h2 =>
          cases h2 with
          | cons h3 h4 => cases h4; rw [dq_str h1, dq_str h3]
      subst ew
      have hi := (List.getElem?_eq_some_iff.mp hki).1
      have htk : ks.take (i + 1) = ks.take i ++ [.tuple [.str a, .str b]] := take_succ_app hki
      have hG : G t = some (.tup (([.inr a, .inr b] : List Key).map kV)) := sG _ _ (hB _ _ ht)
      refine ⟨_, rfl, _, rfl, o, _, rfl, DGet.t ho2 hG, ?_⟩
      have hns : ks = ks.take i ++ .tuple [.str a, .str b] :: ks.drop (i + 1) := by
        have hg := List.getElem?_eq_some_iff.mp hki
        rw [← hg.2, ← List.drop_eq_getElem_cons hg.1, List.take_append_drop]
      cases hc : (valV kvs [.inr a, .inr b]).isSome with
      | true =>
        have hm := valV_mem.mp hc
        rw [hkv] at hm
        refine ⟨true, rfl, ifbt rfl ?_⟩
        refine out false G ?_ sG
        unfold distD
        rw [decide_eq_false]
        intro h
        rw [hns, List.map_append, List.nodup_append] at h
        exact h.2.2 _ hm _ (List.mem_cons_self ..) rfl
      | false =>
        have hm : ([.inr a, .inr b] : List Key) ∉ kvs.map Prod.fst := fun h => by rw [valV_mem.mpr h] at hc; cases hc
        have hlen : kvs.length ≤ 1000 := by
          have := congrArg List.length hkv
          rw [List.length_map, List.length_map, List.length_take] at this
          omega
        refine ⟨false, rfl, ifbf rfl ?_⟩
        refine ⟨_, rfl, _, rfl, o, _, rfl, DPut.t ho2 hG (szl (by omega)), ?_⟩
        refine ⟨_, _, rfl, same_put sG ho, upd_same, ?_, ?_⟩
        · rw [putK_new hm, htk, List.map_append, List.map_append, hkv]; rfl
        · rw [htk, List.map_append, List.nodup_append]
          refine ⟨hnd, by simp, fun x hx y hy => ?_⟩
          rw [List.map_singleton, List.mem_singleton] at hy
          intro e
          rw [e, hy] at hx
          rw [hkv] at hm
          exact hm hx
    · rintro σ G ⟨kvs, x2, rfl, sG, ho2, hkv, hnd⟩
      rw [lu, List.take_length] at hnd
      exact out true G (decide_eq_true hnd).symm sG
end
def put2 : PyData → PyData
  | .tuple xs => .tuple (cutD xs none (some 2))
  | _ => .none
def isTup12 : PyData → Bool
  | .tuple xs => decide (xs.length ≤ 12)
  | _ => false
def isTrans : PyData → Bool
  | .tuple [.tuple c, .tuple p, .tuple d] => decide (c.length ≤ 12) && (decide (p.length ≤ 12) && (decide (d.length ≤ 12) && (c.all isCond && (p.all isPut && (d.all isDel && distD (p.map put2 ++ d))))))
  | _ => false
theorem isTrans_tup {x : PyData} (h : isTrans x = true) : ∃ c p d, x = .tuple [.tuple c, .tuple p, .tuple d] ∧ c.length ≤ 12 ∧ p.length ≤ 12 ∧ d.length ≤ 12 ∧ c.all isCond = true ∧ p.all isPut = true ∧ d.all isDel = true ∧ distD (p.map put2 ++ d) = true := by
  unfold isTrans at h
  split at h
  · rename_i c p d
    simp only [Bool.and_eq_true, decide_eq_true_iff] at h
    exact ⟨c, p, d, rfl, h.1, h.2.1, h.2.2.1, h.2.2.2.1, h.2.2.2.2.1, h.2.2.2.2.2.1, h.2.2.2.2.2.2⟩
  · cases h
theorem isTrans_of {c p d : List PyData} (h1 : c.length ≤ 12) (h2 : p.length ≤ 12) (h3 : d.length ≤ 12) (h4 : c.all isCond = true) (h5 : p.all isPut = true) (h6 : d.all isDel = true) (h7 : distD (p.map put2 ++ d) = true) : isTrans (.tuple [.tuple c, .tuple p, .tuple d]) = true := by
  show (decide (c.length ≤ 12) && (decide (p.length ≤ 12) && (decide (d.length ≤ 12) && (c.all isCond && (p.all isPut && (d.all isDel && distD (p.map put2 ++ d))))))) = true
  rw [decide_eq_true h1, decide_eq_true h2, decide_eq_true h3, h4, h5, h6, h7]; rfl
theorem ky_str {k n : PyData} (h : isKy k n = true) : ∃ a b, k = .str a ∧ n = .str b := by
  obtain ⟨z, _, rfl⟩ := isKy_kind h
  unfold isKy at h
  cases n with
  | str y => exact ⟨z, y, rfl, rfl⟩
  | _ => split at h <;> first | (cases h; done) | (rw [Bool.and_eq_true] at h; cases h.2)
theorem del_2S {x : PyData} (h : isDel x = true) : is2S x := by
  unfold isDel at h
  split at h
  · obtain ⟨a, b, rfl, rfl⟩ := ky_str h; exact ⟨a, b, rfl⟩
  · cases h
theorem put_2S {x : PyData} (h : isPut x = true) : is2S (put2 x) := by
  unfold isPut at h
  split at h
  · rename_i k n v
    have hk : isKy k n = true := ((Bool.and_eq_true _ _).mp h).1
    obtain ⟨a, b, rfl, rfl⟩ := ky_str hk; exact ⟨a, b, rfl⟩
  · cases h
def badT (C : Addr) : List PyData → Addr → Prop := fun ds D => ∃ x, ds = [x] ∧ isTrans x = false ∧ D = C
theorem badT_of {C : Addr} {x : PyData} (h : isTrans x = false) : badT C [x] C := ⟨x, rfl, h, rfl⟩
section
variable {P : Program} {w : World} {K : PySem.W.Frag} {mg : Str → Option Value} {base : Heap}
theorem ok_check_transaction (T : TX K mg w) : FnOk P w K mg base (L2.CX P w) 7 T.a_check_transaction T.d_check_transaction ["transaction"] (spX K (P1 fun x => okx 8 x = true) (fun ds r => ∀ x, ds = [x] → isTrans x = true ∧ r = .d .none) (badT T.a_BadTransaction)) := by
  refine okX T.F_check_transaction sc_check_transaction 7 rfl P1.len fun cdv A outer s H E hr => ⟨_, (pss_cons (ps_if (pt_not (ptK_truth (K := K) rfl (pe_call (ok__is_tuple_of T) (hr.mono (by decide)) (by rfl) T.g__is_tuple_of T.F__is_tuple_of.kp T.b__is_tuple_of .nil pass0 (pa_cons (pv 0) (pa_cons pe_int pa_nil))) (by intro _; rfl))) (pss_one (ps_leave rfl (takes_of rfl rfl rfl rfl) (pmk_own PySem.F.excBase_ValueError T.x_BadTransaction T.g_BadTransaction T.k_BadTransaction (raises_own T.s_BadTransaction T.t_BadTransaction) rfl))) pss_nil)
      (pss_cons (ps_for (passes_of rfl) rfl (piK_tup (K := K) rfl (pv 0)) (pg_name (i := 1) sc_check_transaction.nd rfl (Or.inl rfl))
        (pss_one (ps_if (PW.pt (pw_or (pt_not (pt_val (pe_callB (callK_isi (K := K) rfl) (by rfl) T.n_isinstance (by decide +kernel) (pa_cons (pv 1) (pa_cons (pe_bltn (v := .ty "tuple") (u := .type "tuple") (by rfl) T.n_tuple (by decide +kernel) rfl) pa_nil))))) (pw_or1 (pt_cmpR op_gt (pe_callB (callK_len (K := K) rfl) (by rfl) T.n_len PySem.boot_len (pa_cons (pv 1) pa_nil)) (pe_glob (v := .int 12) (by rfl) T.c_MOST_MEMBERS ⟨_, rfl⟩) (nomark _))))) (pss_one (ps_leave rfl (takes_of rfl rfl rfl rfl) (pmk_own PySem.F.excBase_ValueError T.x_BadTransaction T.g_BadTransaction T.k_BadTransaction (raises_own T.s_BadTransaction T.t_BadTransaction) rfl))) pss_nil)))
      (pss_cons (ps_asg (pv 0) (pgK_tup (K := K) (n := 3) rfl rfl (pgs_cons (pg_name (i := 2) sc_check_transaction.nd rfl (Or.inl rfl)) (pgs_cons (pg_name (i := 3) sc_check_transaction.nd rfl (Or.inl rfl)) (pgs_cons (pg_name (i := 4) sc_check_transaction.nd rfl (Or.inl rfl)) pgs_nil)))))
      (pss_cons (ps_if (pt_not (pt_val (pe_callB (callK_all (K := K) rfl rfl) (by rfl) T.n_all (by decide +kernel) (pa_cons (pe_lc (own := [("condition", 5)]) (g := gName 5) (tt := tYes) (by rfl) sc_check_transaction.nd (piK_tup (K := K) rfl (pv 2)) (blkOk_by (own := [("condition", 5)]) (N := ["transaction", "part", "conditions", "puts", "deletes", "condition", "put", "delete"]) (sc := defScope s_check_transaction) (by decide +kernel)) (fun _ _ _ _ _ => pg_name (i := 5) sc_check_transaction.nd rfl (Or.inl rfl)) (fun _ _ _ _ _ => pts_nil) (fun _ _ _ _ _ => (pe_call (ok__is_condition T) (hr.mono (by decide)) (by rfl) T.g__is_condition T.F__is_condition.kp T.b__is_condition .nil pass0 (pa_cons (pv 5) pa_nil)))) pa_nil)))) (pss_one (ps_leave rfl (takes_of rfl rfl rfl rfl) (pmk_own PySem.F.excBase_ValueError T.x_BadTransaction T.g_BadTransaction T.k_BadTransaction (raises_own T.s_BadTransaction T.t_BadTransaction) rfl))) pss_nil)
      (pss_cons (ps_if (pt_not (pt_val (pe_callB (callK_all (K := K) rfl rfl) (by rfl) T.n_all (by decide +kernel) (pa_cons (pe_lc (own := [("put", 6)]) (g := gName 6) (tt := tYes) (by rfl) sc_check_transaction.nd (piK_tup (K := K) rfl (pv 3)) (blkOk_by (own := [("put", 6)]) (N := ["transaction", "part", "conditions", "puts", "deletes", "condition", "put", "delete"]) (sc := defScope s_check_transaction) (by decide +kernel)) (fun _ _ _ _ _ => pg_name (i := 6) sc_check_transaction.nd rfl (Or.inl rfl)) (fun _ _ _ _ _ => pts_nil) (fun _ _ _ _ _ => (pe_call (ok__is_put T) (hr.mono (by decide)) (by rfl) T.g__is_put T.F__is_put.kp T.b__is_put .nil pass0 (pa_cons (pv 6) pa_nil)))) pa_nil)))) (pss_one (ps_leave rfl (takes_of rfl rfl rfl rfl) (pmk_own PySem.F.excBase_ValueError T.x_BadTransaction T.g_BadTransaction T.k_BadTransaction (raises_own T.s_BadTransaction T.t_BadTransaction) rfl))) pss_nil)
      (pss_cons (ps_if (pt_not (pt_val (pe_callB (callK_all (K := K) rfl rfl) (by rfl) T.n_all (by decide +kernel) (pa_cons (pe_lc (own := [("delete", 7)]) (g := gName 7) (tt := tYes) (by rfl) sc_check_transaction.nd (piK_tup (K := K) rfl (pv 4)) (blkOk_by (own := [("delete", 7)]) (N := ["transaction", "part", "conditions", "puts", "deletes", "condition", "put", "delete"]) (sc := defScope s_check_transaction) (by decide +kernel)) (fun _ _ _ _ _ => pg_name (i := 7) sc_check_transaction.nd rfl (Or.inl rfl)) (fun _ _ _ _ _ => pts_nil) (fun _ _ _ _ _ => (pe_call (ok__is_delete T) (hr.mono (by decide)) (by rfl) T.g__is_delete T.F__is_delete.kp T.b__is_delete .nil pass0 (pa_cons (pv 7) pa_nil)))) pa_nil)))) (pss_one (ps_leave rfl (takes_of rfl rfl rfl rfl) (pmk_own PySem.F.excBase_ValueError T.x_BadTransaction T.g_BadTransaction T.k_BadTransaction (raises_own T.s_BadTransaction T.t_BadTransaction) rfl))) pss_nil)
      (pss_one (ps_if (pt_not (ptK_truth (K := K) rfl (pe_call (ok__are_distinct T) (hr.mono (by decide)) (by rfl) T.g__are_distinct T.F__are_distinct.kp T.b__are_distinct .nil pass0 (pa_cons (pe_op op_cat (pe_lc (own := [("put", 6)]) (g := gName 6) (tt := tYes) (by rfl) sc_check_transaction.nd (piK_tup (K := K) rfl (pv 3)) (blkOk_by (own := [("put", 6)]) (N := ["transaction", "part", "conditions", "puts", "deletes", "condition", "put", "delete"]) (sc := defScope s_check_transaction) (by decide +kernel)) (fun _ _ _ _ _ => pg_name (i := 6) sc_check_transaction.nd rfl (Or.inl rfl)) (fun _ _ _ _ _ => pts_nil) (fun _ _ _ _ _ => (pe_slice (slK_tupA (K := K) rfl) (pv 6) po_none (po_some pe_int)))) (pe_callTy (callK_list (K := K) rfl) (by rfl) T.n_list (by decide +kernel) (pa_cons (pv 4) pa_nil))) pa_nil)) (by intro _; rfl))) (pss_one (ps_leave rfl (takes_of rfl rfl rfl rfl) (pmk_own PySem.F.excBase_ValueError T.x_BadTransaction T.g_BadTransaction T.k_BadTransaction (raises_own T.s_BadTransaction T.t_BadTransaction) rfl))) pss_nil)))))))), fun ds hd => ?_⟩
  obtain ⟨x, rfl, hx⟩ := hd
  walk_at "pn"
  by_cases h3 : ∃ a b c, x = .tuple [a, b, c]
  case neg =>
    have e : isTrans x = false := by
      rw [Bool.eq_false_iff]
      intro h
      obtain ⟨c, p, d, rfl, _⟩ := isTrans_tup h
      exact h3 ⟨_, _, _, rfl⟩
    have e2 : isTupN x (.int 3) = false := by
      cases x
      case tuple xs =>
        refine decide_eq_false fun h => h3 ?_
        have hl : xs.length = 3 := by have : (xs.length : Int) = 3 := h; omega
        match xs, hl with
        | [a, b, c], _ => exact ⟨a, b, c, rfl⟩
      all_goals rfl
    walk_at "px"
    rw [e2]
    walk_at "px"
    exact badT_of e
  obtain ⟨a, b, c, rfl⟩ := h3
  walk_at "px"
  refine ws_for ?_
  walk_at "px"
  refine ⟨Unit, fun _ => [.d (.tuple [a, b, c]), .u, .u, .u, .u, .u, .u, .u], fun _ => (), fun i _ => ∀ y ∈ [a, b, c].take i, isTup12 y = true, nxt () (by walk_at "wk") rfl (by simp), fun i y _ hy hI => ?_, fun _ hI => ?_⟩
  · dsimp only at hI
    have hm := List.mem_of_getElem? hy
    have htk := take_succ_app hy
    have bad : isTup12 y = false → badT T.a_BadTransaction [.tuple [a, b, c]] T.a_BadTransaction := fun h => badT_of (by
      rw [Bool.eq_false_iff]
      intro h2
      obtain ⟨c', p, d, e, h1, h2, h3, _⟩ := isTrans_tup h2
      injection e with e
      have : isTup12 y = true := by
        rw [e] at hm
        simp only [List.mem_cons, List.not_mem_nil, or_false] at hm
        rcases hm with rfl | rfl | rfl <;> exact decide_eq_true (by assumption)
      rw [this] at h
      cases h)
    clear hy
    cases y
    case tuple ys =>
      walk_at "px"
      walk_at "pi"
      · intro h
        walk_at "px"
        exact bad (decide_eq_false (by omega))
      · intro h
        walk_at "px"
        refine nxt () (by walk_at "wk") rfl fun z hz => ?_
        rw [htk] at hz
        rcases List.mem_append.mp hz with hz | hz
        · exact hI z hz
        · rw [List.mem_singleton.mp hz]
          exact decide_eq_true (by omega)
    all_goals walk_at "px"
    all_goals exact bad rfl
  · obtain ⟨ca, rfl, la⟩ : ∃ xs, a = .tuple xs ∧ xs.length ≤ 12 := by
      have h := hI a (by simp)
      cases a with
      | tuple xs => exact ⟨xs, rfl, of_decide_eq_true h⟩
      | _ => cases h
    obtain ⟨cb, rfl, lb⟩ : ∃ xs, b = .tuple xs ∧ xs.length ≤ 12 := by
      have h := hI b (by simp)
      cases b with
      | tuple xs => exact ⟨xs, rfl, of_decide_eq_true h⟩
      | _ => cases h
    obtain ⟨cc, rfl, lc⟩ : ∃ xs, c = .tuple xs ∧ xs.length ≤ 12 := by
      have h := hI c (by simp)
      cases c with
      | tuple xs => exact ⟨xs, rfl, of_decide_eq_true h⟩
      | _ => cases h
    clear hI
    have ho : ∀ y ∈ ca ++ cb ++ cc, okx 8 y = true := fun y hy => by
      rw [List.mem_append, List.mem_append] at hy
      rcases hy with (hy | hy) | hy
      · exact okx_tup (okx_tup hx (x := .tuple ca) (by simp)) hy
      · exact okx_tup (okx_tup hx (x := .tuple cb) (by simp)) hy
      · exact okx_tup (okx_tup hx (x := .tuple cc) (by simp)) hy
    have ht : isTrans (.tuple [.tuple ca, .tuple cb, .tuple cc]) = (ca.all isCond && (cb.all isPut && (cc.all isDel && distD (cb.map put2 ++ cc)))) := by
      show (decide _ && (decide _ && (decide _ && _))) = _
      rw [decide_eq_true la, decide_eq_true lb, decide_eq_true lc]; rfl
    walk_at "px"
    refine we_lcM (by walk_at "ww") rfl ?_
    walk_at "px"
    refine ⟨fun x => .bool (isCond x), by omega, fun x hx => ?_, ?_⟩
    · have hx8 := ho x (by simp [hx])
      walk_at "pn"
      walk_at "px"
      exact rfl
    walk_at "px"
    refine cbP_all (bs := ca.map isCond) (by rw [List.map_map]; rfl) ?_
    walk_at "px"
    rw [all_map_id]
    walk_at "pi"
    · intro h
      walk_at "px"
      exact badT_of (by rw [ht, h, Bool.false_and])
    intro g1
    walk_at "px"
    refine we_lcM (by walk_at "ww") rfl ?_
    walk_at "px"
    refine ⟨fun x => .bool (isPut x), by omega, fun x hx => ?_, ?_⟩
    · have hx8 := ho x (by simp [hx])
      walk_at "pn"
      walk_at "px"
      exact rfl
    walk_at "px"
    refine cbP_all (bs := cb.map isPut) (by rw [List.map_map]; rfl) ?_
    walk_at "px"
    rw [all_map_id]
    walk_at "pi"
    · intro h
      walk_at "px"
      exact badT_of (by rw [ht, h, Bool.false_and, Bool.and_false])
    intro g2
    walk_at "px"
    refine we_lcM (by walk_at "ww") rfl ?_
    walk_at "px"
    refine ⟨fun x => .bool (isDel x), by omega, fun x hx => ?_, ?_⟩
    · have hx8 := ho x (by simp [hx])
      walk_at "pn"
      walk_at "px"
      exact rfl
    walk_at "px"
    refine cbP_all (bs := cc.map isDel) (by rw [List.map_map]; rfl) ?_
    walk_at "px"
    rw [all_map_id]
    walk_at "pi"
    · intro h
      walk_at "px"
      exact badT_of (by rw [ht, h, Bool.false_and, Bool.and_false, Bool.and_false])
    intro g3
    rw [g1, g2, g3] at ht
    walk_at "px"
    refine we_lcM (by walk_at "ww") rfl ?_
    walk_at "px"
    refine ⟨put2, by omega, fun x hx => ?_, ?_⟩
    · have hp := List.all_eq_true.mp g2 x hx
      cases x
      case tuple xs =>
        walk_at "pn"
        walk_at "px"
        exact rfl
      all_goals cases hp
    walk_at "px"
    refine opP_cat rfl rfl (by rw [List.length_map]; omega) ?_
    walk_at "px"
    refine ⟨⟨_, rfl, by rw [List.length_append, List.length_map]; omega, fun k hk => ?_⟩, ?_⟩
    · rcases List.mem_append.mp hk with hk | hk
      · obtain ⟨z, hz, rfl⟩ := List.mem_map.mp hk
        exact put_2S (List.all_eq_true.mp g2 z hz)
      · exact del_2S (List.all_eq_true.mp g3 k hk)
    walk_at "px"
    show ((!distD (cb.map put2 ++ cc)) = true → _) ∧ (_ → _)
    walk_at "pi"
    · intro h
      walk_at "px"
      exact badT_of (by rw [ht, show distD (cb.map put2 ++ cc) = false from decide_eq_false h]; rfl)
    · intro h
      walk_at "px"
      intro x e
      cases e
      exact ⟨by rw [ht, show distD (cb.map put2 ++ cc) = true from decide_eq_true h]; rfl, rfl⟩
end
/-! the store's methods -/
abbrev sbkQ : Str := "_sorted_by_key.<locals>.<lambda>"
section
variable {P : Program} {w : World} {K : PySem.W.Frag} {mg : Str → Option Value} {base : Heap}
theorem ok__sorted_by_key (T : TX K mg w) (TB : LamX.TabB base mg T.cc__sorted_by_key T.pp__sorted_by_key) : FnOk P w K mg base CX0 4 T.a__sorted_by_key T.d__sorted_by_key ["members"] (sp_sbk K T.pp__sorted_by_key sbkQ) := by
  refine okC T.F__sorted_by_key sc__sorted_by_key T.hc__sorted_by_key (fun vs H Q E h => ?_) fun A outer s H vs Q E hr h => ?_
  · obtain ⟨a, xs, bs, G, rfl, _⟩ := h
    rfl
  · obtain ⟨a, xs, bs, G, rfl, h1, h2, h3, h4, h5, h6, q⟩ := h
    refine ⟨_, (pss_one (ps_ret (pe_callTy (callK_tuple (K := K) rfl) (by rfl) T.n_tuple (by decide +kernel) (pa_cons (pe_sortL (q := sbkQ) hr (by rfl) T.n_sorted (pa_cons (pv 0) pa_nil) TB rfl (by show (Str.ofString "_sorted_by_key" ++ Str.ofString ".<locals>." ++ Str.ofString "<lambda>" : Str) = Str.ofString "_sorted_by_key.<locals>.<lambda>"; decide +kernel) (by rfl) (by rfl) rfl rfl rfl (by decide) (by rfl) (fun _ _ _ _ _ => rfl)) pa_nil)))), ?_⟩
    refine ⟨_, rfl, a, xs, bs, G, rfl, h1, h2, h3, h4, h5, h6, fun p H2 hE hG hT hp => ?_⟩
    refine ⟨p, _, rfl, .inl ⟨sql upd_same, fun l hl => ?_⟩⟩
    have e1 := extP_new (o := .lst ((sort2 xs bs).map Prod.fst)) hE hp
    have t1 := tabS_new (o := .lst ((sort2 xs bs).map Prod.fst)) hT hp
    exact q l _ (extP_new e1 hl) (tabG_new (tabG_new hG hp) hl) (tabS_new t1 hl) (extP_none e1 t1 hl) upd_same
abbrev sR (K : PySem.W.Frag) (T : TX K mg w) : MR SM := stoR K T.a_Store T.pp__sorted_by_key sbkQ
theorem ok_Store_entry (T : TX K mg w) : FnOk P w K mg base CX0 1 T.a_Store_entry T.d_Store_entry ["self", "kind", "name"] (spEnt K T.a_Store T.pp__sorted_by_key sbkQ) := by
  refine okM T.F_Store_entry sc_Store_entry 0 rfl (fun m ds ⟨x, y, e⟩ => by rw [e]; rfl) fun cdv A outer s H E hr => ⟨_, (pss_one (ps_ret (pe_dget1 (hu_of hr) (pe_fldK (K := K) rfl (pv 0) rfl) (pe_tup (pa_cons (pv 1) (pa_cons (pv 2) pa_nil))) ⟨rfl, rfl, rfl, rfl⟩))), fun m ds hd => ?_⟩
  obtain ⟨x, y, rfl⟩ := hd
  have kC := T.K_Store
  have n1 := T.na_Store__table
  walk_at "pn"
  walk_at "px"
  intro a b e
  cases e
  rfl
theorem ok_Store__holds (T : TX K mg w) : FnOk P w K mg base CX0 2 T.a_Store__holds T.d_Store__holds ["self", "kind", "name", "revision"] (spM (sR K T) K SM.s (fun m ds => ∃ x y r, ds = [.str x, .str y, .int r] ∧ ∀ d, lkD m.tab [.inr x, .inr y] = some d → ∃ b v c, d = .tuple [.int b, .int v, c]) (fun m ds r m' => m' = m ∧ ∀ x y i, ds = [.str x, .str y, .int i] → r = .d (.bool (match lkD m.tab [.inr x, .inr y] with | some (.tuple [_, .int v, _]) => decide (i = v) | _ => decide (i = 0)))) fun _ _ _ => False) := by
  refine okM T.F_Store__holds sc_Store__holds 1 rfl (fun m ds ⟨x, y, r, e, _⟩ => by rw [e]; rfl) fun cdv A outer s H E hr => ⟨_, (pss_cons (ps_set (i := 4) sc_Store__holds.nd rfl (Or.inl rfl) (pe_meth (pv 0) T.K_Store T.m_Store_entry (ok_Store_entry T) (hr.mono (by decide)) T.b_Store_entry .nil pass0 (pa_cons (pv 1) (pa_cons (pv 2) pa_nil))))
      (pss_cons (ps_if (pt_cmpR op_isN1 (pv 4) pe_non (nomark _)) (pss_one (ps_ret (pe_cmpR op_eq (pv 3) pe_int (nomark _)))) pss_nil)
      (pss_one (ps_ret (pe_cmpR op_eq (pv 3) (pe_ix (ixK_tup (K := K) rfl) (pv 4) pe_int (fun _ _ => rfl)) (nomark _)))))), fun m ds hd => ?_⟩
  obtain ⟨x, y, i, rfl, ht⟩ := hd
  have kC := T.K_Store
  have n1 := T.na_Store__table
  walk_at "pn"
  walk_at "px"
  cases hq : lkD m.tab [.inr x, .inr y] with
  | none =>
    dsimp only [Option.getD]
    walk_at "px"
    intro a b c e
    cases e
    rw [hq]
  | some d =>
    obtain ⟨b, v, c, rfl⟩ := ht d hq
    dsimp only [Option.getD]
    walk_at "px"
    intro a b c e
    cases e
    rw [hq]
/-- the entries of a table -/
def WfTab (tab : Tab) : Prop := ∀ k d, lkD tab k = some d → ∃ b v c, d = .tuple [.int b, .int v, c]
def bornOf (tab : Tab) (k : List Key) (rev : Int) : PyData := match lkD tab k with
  | some (.tuple [b, _, _]) => b
  | _ => .int rev
def put1 (rev : Int) (tab : Tab) : PyData → Tab
  | .tuple [.str k, .str n, v] => putD tab [.inr k, .inr n] (.tuple [bornOf tab [.inr k, .inr n] rev, .int rev, v])
  | _ => tab
def putAll (rev : Int) (tab : Tab) (ps : List PyData) : Tab := ps.foldl (put1 rev) tab
def delAll (tab : Tab) (ds : List PyData) : Tab := ds.foldl (fun t d => dropD t (keyOf d)) tab
def chg (m : SM) (ps ds : List PyData) : SM := { m with rev := m.rev + 1, tab := delAll (putAll (m.rev + 1) m.tab ps) ds, chs := m.chs ++ [.tuple [.int (m.rev + 1), .tuple (sortD ps), .tuple (sortD ds)]] }
/-- puts and deletes that a store can do -/
structure CanDo (m : SM) (ps ds : List PyData) : Prop where
  wf : WfTab m.tab
  lt : m.tab.length + ps.length < 90000
  lc : m.chs.length < 90000
  lp : ps.length ≤ 90000
  ld : ds.length ≤ 90000
  p : ∀ p ∈ ps, ∃ k n v, p = .tuple [.str k, .str n, v]
  d : ∀ d ∈ ds, is2S d
  g : ∀ (i : Nat) (d : PyData), ds[i]? = some d → (lkD (delAll (putAll (m.rev + 1) m.tab ps) (ds.take i)) (keyOf d)).isSome = true
theorem lk_cons {z : List Key × PyData} {tab : Tab} {j : List Key} : lkD (z :: tab) j = if z.1 = j then some z.2 else lkD tab j := by
  unfold lkD
  rw [List.find?_cons]
  by_cases e : z.1 = j
  · rw [decide_eq_true e, if_pos e]; rfl
  · rw [decide_eq_false e, if_neg e]
theorem lk_set {k j : List Key} {d : PyData} : ∀ {tab : Tab}, (tab.any fun z => decide (z.1 = k)) = true → lkD (tab.map fun z => if z.1 = k then (z.1, d) else z) j = if j = k then some d else lkD tab j
  | [], h => by cases h
  | z :: tab, h => by
    rw [List.map_cons, lk_cons, lk_cons]
    by_cases e : z.1 = k
    · rw [if_pos e]
      show (if z.1 = j then some d else _) = _
      by_cases e2 : j = k
      · rw [if_pos e2, if_pos (e.trans e2.symm)]
      · rw [if_neg e2, if_neg (fun y => e2 (y.symm.trans e)), if_neg (fun y => e2 (y.symm.trans e))]
        have keep : ∀ l : Tab, lkD (l.map fun z => if z.1 = k then (z.1, d) else z) j = lkD l j := fun l => by
          induction l with
          | nil => rfl
          | cons y l ih =>
            rw [List.map_cons, lk_cons, lk_cons, ih]
            by_cases e3 : y.1 = k
            · rw [if_pos e3]
              show (if y.1 = j then some d else _) = _
              rw [if_neg (fun u => e2 (u.symm.trans e3)), if_neg (fun u => e2 (u.symm.trans e3))]
            · rw [if_neg e3]
        exact keep tab
    · rw [if_neg e]
      have h' : (tab.any fun z => decide (z.1 = k)) = true := by
        rw [List.any_cons, decide_eq_false e, Bool.false_or] at h; exact h
      rw [lk_set h']
      by_cases e2 : j = k
      · rw [if_pos e2, if_neg (fun y => e (y.trans e2)), if_pos e2]
      · rw [if_neg e2, if_neg e2]
theorem lk_app {k j : List Key} {d : PyData} : ∀ {tab : Tab}, (tab.any fun z => decide (z.1 = k)) = false → lkD (tab ++ [(k, d)]) j = if j = k then some d else lkD tab j
  | [], _ => by
    rw [List.nil_append, lk_cons]
    by_cases e : j = k
    · rw [if_pos e, if_pos e.symm]
    · rw [if_neg e, if_neg (fun y => e y.symm)]
  | z :: tab, h => by
    rw [List.any_cons, Bool.or_eq_false_iff] at h
    have e := of_decide_eq_false h.1
    rw [List.cons_append, lk_cons, lk_cons, lk_app h.2]
    by_cases e2 : j = k
    · rw [if_pos e2, if_neg (fun y => e (y.trans e2)), if_pos e2]
    · rw [if_neg e2, if_neg e2]
theorem lk_put {tab : Tab} {k j : List Key} {d : PyData} : lkD (putD tab k d) j = if j = k then some d else lkD tab j := by
  unfold putD
  split
  · next h => exact lk_set h
  · next h => exact lk_app (Bool.eq_false_iff.mpr h)
theorem lk_drop {k j : List Key} : ∀ {tab : Tab}, lkD (dropD tab k) j = if j = k then none else lkD tab j
  | [] => by split <;> rfl
  | z :: tab => by
    unfold dropD
    rw [List.filter_cons]
    by_cases e : z.1 = k
    · rw [if_neg (by simp [e])]
      show lkD (dropD tab k) j = _
      rw [lk_drop, lk_cons]
      by_cases e2 : j = k
      · rw [if_pos e2, if_pos e2]
      · rw [if_neg e2, if_neg e2, if_neg (fun y => e2 (y.symm.trans e))]
    · rw [if_pos (by simp [e]), lk_cons]
      show (if z.1 = j then some z.2 else lkD (dropD tab k) j) = _
      rw [lk_drop, lk_cons]
      by_cases e2 : j = k
      · rw [if_pos e2, if_neg (fun y => e (y.trans e2)), if_pos e2]
      · rw [if_neg e2, if_neg e2]
theorem wf_put {tab : Tab} {k : List Key} {b v : Int} {c : PyData} (h : WfTab tab) : WfTab (putD tab k (.tuple [.int b, .int v, c])) := fun j d e => by
  rw [lk_put] at e
  split at e
  · cases e; exact ⟨b, v, c, rfl⟩
  · exact h j d e
theorem wf_drop {tab : Tab} {k : List Key} (h : WfTab tab) : WfTab (dropD tab k) := fun j d e => by
  rw [lk_drop] at e
  split at e
  · cases e
  · exact h j d e
theorem put_len {tab : Tab} {k : List Key} {d : PyData} : (putD tab k d).length ≤ tab.length + 1 := by
  unfold putD
  split
  · rw [List.length_map]; omega
  · rw [List.length_append]; exact Nat.le_refl _
theorem ok_Store__change (T : TX K mg w) (TB : LamX.TabB base mg T.cc__sorted_by_key T.pp__sorted_by_key) : FnOk P w K mg base CX0 5 T.a_Store__change T.d_Store__change ["self", "puts", "deletes"] (spM (sR K T) K SM.s (fun m ds => ∃ ps dl, ds = [.tuple ps, .tuple dl] ∧ CanDo m ps dl) (fun m ds r m' => ∀ ps dl, ds = [.tuple ps, .tuple dl] → r = .d .none ∧ m' = chg m ps dl) fun _ _ _ => False) := by
  refine okM T.F_Store__change sc_Store__change 6 rfl (fun m ds ⟨x, y, e, _⟩ => by rw [e]; rfl) fun cdv A outer s H E hr => ⟨_, (pss_cons (psK_fldaug (K := K) rfl (pv 0) pe_int in_add)
      (pss_cons (ps_for PassesOwn.never rfl (piK_tup (K := K) rfl (pv 1)) (pgK_tup (K := K) (n := 3) rfl rfl (pgs_cons (pg_name (i := 3) sc_Store__change.nd rfl (Or.inl rfl)) (pgs_cons (pg_name (i := 4) sc_Store__change.nd rfl (Or.inl rfl)) (pgs_cons (pg_name (i := 5) sc_Store__change.nd rfl (Or.inl rfl)) pgs_nil))))
        (pss_cons (ps_set (i := 6) sc_Store__change.nd rfl (Or.inl rfl) (pe_meth (pv 0) T.K_Store T.m_Store_entry (ok_Store_entry T) (hr.mono (by decide)) T.b_Store_entry .nil pass0 (pa_cons (pv 3) (pa_cons (pv 4) pa_nil))))
        (pss_cons (ps_set (i := 7) sc_Store__change.nd rfl (Or.inl rfl) (pe_ifExp (pt_cmpR op_isN1 (pv 6) pe_non (nomark _)) (pe_fldK (K := K) rfl (pv 0) rfl) (pe_ix (ixK_tup (K := K) rfl) (pv 6) pe_int (fun _ _ => rfl))))
        (pss_one (ps_dput (hu_of hr) (pe_fldK (K := K) rfl (pv 0) rfl) (pe_tup (pa_cons (pv 3) (pa_cons (pv 4) pa_nil))) (pe_tup (pa_cons (pv 7) (pa_cons (pe_fldK (K := K) rfl (pv 0) rfl) (pa_cons (pv 5) pa_nil)))) rfl)))))
      (pss_cons (ps_for PassesOwn.never rfl (piK_tup (K := K) rfl (pv 2)) (pg_name (i := 8) sc_Store__change.nd rfl (Or.inl rfl))
        (pss_one (ps_ddelT (hu_of hr) (pe_fldK (K := K) rfl (pv 0) rfl) (pv 8))))
      (pss_one (ps_expr (peK_bm (K := K) rfl PySem.F.plainAttrs_list PySem.F.slot_list_append PySem.F.type_list_append mt_append (pe_fldK (K := K) rfl (pv 0) rfl) (pa_cons (pe_tup (pa_cons (pe_fldK (K := K) rfl (pv 0) rfl) (pa_cons (pe_call (ok__sorted_by_key T TB) (hr.mono (by decide)) (by rfl) T.g__sorted_by_key T.F__sorted_by_key.kp T.b__sorted_by_key .nil pass0 (pa_cons (pv 1) pa_nil)) (pa_cons (pe_call (ok__sorted_by_key T TB) (hr.mono (by decide)) (by rfl) T.g__sorted_by_key T.F__sorted_by_key.kp T.b__sorted_by_key .nil pass0 (pa_cons (pv 2) pa_nil)) pa_nil)))) pa_nil))))))), fun m ds hd => ?_⟩
  obtain ⟨ps, dl, rfl, hc⟩ := hd
  have kC := T.K_Store
  have n1 := T.na_Store__table
  have n2 := T.na_Store_revision
  have n3 := T.na_Store__changes
  walk_at "pn"
  walk_at "px"
  refine ws_for ?_
  walk_at "px"
  refine ⟨SM, fun _ => [.v (.ref m.s), .d (.tuple ps), .d (.tuple dl), .u, .u, .u, .u, .u, .u], fun s => s, fun i s => s = { m with rev := m.rev + 1, tab := putAll (m.rev + 1) m.tab (ps.take i) } ∧ WfTab s.tab ∧ s.tab.length ≤ m.tab.length + i, nxt { m with rev := m.rev + 1 } (by walk_at "wk") rfl ⟨rfl, hc.wf, Nat.le_refl _⟩, fun i x s hx hI => ?_, fun s hI => ?_⟩
  · obtain ⟨rfl, hw, hl⟩ := hI
    obtain ⟨k, n, v, rfl⟩ := hc.p x (List.mem_of_getElem? hx)
    have hi := (List.getElem?_eq_some_iff.mp hx).1
    have hlt := hc.lt
    have htk : putAll (m.rev + 1) m.tab (ps.take (i + 1)) = put1 (m.rev + 1) (putAll (m.rev + 1) m.tab (ps.take i)) (.tuple [.str k, .str n, v]) := by
      rw [take_succ_app hx]
      unfold putAll
      rw [List.foldl_append]
      rfl
    generalize hT : putAll (m.rev + 1) m.tab (ps.take i) = tb at *
    have hw' : WfTab tb := hw
    have hl' : tb.length ≤ m.tab.length + i := hl
    have hl2 : tb.length < 90000 := by omega
    walk_at "pn"
    walk_at "px"
    cases hq : lkD tb [.inr k, .inr n] with
    | none =>
      have e1 : put1 (m.rev + 1) tb (.tuple [.str k, .str n, v]) = putD tb [.inr k, .inr n] (.tuple [.int (m.rev + 1), .int (m.rev + 1), v]) := by
        show putD tb _ (.tuple [bornOf tb _ _, _, v]) = _
        unfold bornOf
        rw [hq]
      dsimp only [Option.getD]
      walk_at "px"
      refine nxt _ (by walk_at "wk") rfl ⟨?_, wf_put hw', Nat.le_trans put_len (Nat.succ_le_succ hl')⟩
      rw [htk, e1]
    | some d =>
      obtain ⟨b, u, c, rfl⟩ := hw' _ d hq
      have e1 : put1 (m.rev + 1) tb (.tuple [.str k, .str n, v]) = putD tb [.inr k, .inr n] (.tuple [.int b, .int (m.rev + 1), v]) := by
        show putD tb _ (.tuple [bornOf tb _ _, _, v]) = _
        unfold bornOf
        rw [hq]
      dsimp only [Option.getD]
      walk_at "px"
      refine nxt _ (by walk_at "wk") rfl ⟨?_, wf_put hw', Nat.le_trans put_len (Nat.succ_le_succ hl')⟩
      rw [htk, e1]
  · obtain ⟨rfl, hw, hl⟩ := hI
    rw [List.take_length] at *
    walk_at "pn"
    walk_at "px"
    refine ws_for ?_
    walk_at "px"
    refine ⟨SM, fun _ => [.v (.ref m.s), .d (.tuple ps), .d (.tuple dl), .u, .u, .u, .u, .u, .u], fun s => s, fun i s => s = { m with rev := m.rev + 1, tab := delAll (putAll (m.rev + 1) m.tab ps) (dl.take i) }, nxt _ (by walk_at "wk") rfl rfl, fun i x s hx hI => ?_, fun s hI => ?_⟩
    · obtain rfl := hI
      obtain ⟨a, b, rfl⟩ := hc.d x (List.mem_of_getElem? hx)
      have hg : (lkD (delAll (putAll (m.rev + 1) m.tab ps) (dl.take i)) [.inr a, .inr b]).isSome = true := hc.g i _ hx
      have htk : delAll (putAll (m.rev + 1) m.tab ps) (dl.take (i + 1)) = dropD (delAll (putAll (m.rev + 1) m.tab ps) (dl.take i)) [.inr a, .inr b] := by
        rw [take_succ_app hx]
        unfold delAll
        rw [List.foldl_append]
        rfl
      walk_at "pn"
      walk_at "px"
      refine nxt _ (by walk_at "wk") rfl ?_
      show _ = ({ m with rev := m.rev + 1, tab := delAll (putAll (m.rev + 1) m.tab ps) (dl.take (i + 1)) } : SM)
      rw [htk]
    · obtain rfl := hI
      rw [List.take_length] at *
      have hlc := hc.lc
      have t1 : ∀ d ∈ ps, Two d := fun d hd => by obtain ⟨k, n, v, rfl⟩ := hc.p d hd; exact ⟨k, n, _, rfl⟩
      have t2 : ∀ d ∈ dl, Two d := fun d hd => by obtain ⟨k, n, rfl⟩ := hc.d d hd; exact ⟨k, n, _, rfl⟩
      walk_at "pn"
      walk_at "px"
      intro ps' dl' e
      cases e
      exact ⟨rfl, rfl⟩
end
/-! apply -/
def holdB (tab : Tab) : PyData → Bool
  | .tuple [.str x, .str y, .int i] => match lkD tab [.inr x, .inr y] with
    | some (.tuple [_, .int v, _]) => decide (i = v)
    | _ => decide (i = 0)
  | _ => false
def hasB (tab : Tab) (d : PyData) : Bool := (lkD tab (keyOf d)).isSome
def heldL (tab : Tab) (cs dl : List PyData) : List Bool := cs.map (holdB tab) ++ dl.map (hasB tab)
/-- a store that has room -/
structure StoOk (m : SM) : Prop where
  wf : WfTab m.tab
  lt : m.tab.length < 80000
  lc : m.chs.length < 80000
def newSt (m : SM) (ps dl : List PyData) : SM := if ps.isEmpty && dl.isEmpty then m else chg m ps dl
def Ans (m : SM) (cs ps dl : List PyData) (r : Rk) (m' : SM) : Prop :=
  ((heldL m.tab cs dl).all id = true → m' = newSt m ps dl ∧ r = .d (.tuple [.str "done", .int m'.rev])) ∧
  ((heldL m.tab cs dl).all id = false → m' = m ∧ ∃ j : Nat, r = .d (.tuple [.str "no", .int j]) ∧ (heldL m.tab cs dl)[j]? = some false ∧ ∀ i : Nat, i < j → (heldL m.tab cs dl)[i]? ≠ some false)
theorem cond_3 {x : PyData} (h : isCond x = true) : ∃ a b i, x = .tuple [.str a, .str b, .int i] := by
  unfold isCond at h
  split at h
  · rename_i k n r
    rw [Bool.and_eq_true] at h
    obtain ⟨a, b, rfl, rfl⟩ := ky_str h.1
    cases r <;> first | exact ⟨a, b, _, rfl⟩ | (cases h.2)
  · cases h
theorem put_3 {x : PyData} (h : isPut x = true) : ∃ k n v, x = .tuple [.str k, .str n, v] := by
  unfold isPut at h
  split at h
  · rename_i k n v
    have hk : isKy k n = true := ((Bool.and_eq_true _ _).mp h).1
    obtain ⟨a, b, rfl, rfl⟩ := ky_str hk; exact ⟨a, b, v, rfl⟩
  · cases h
theorem lk_putAll {k : List Key} {rev : Int} : ∀ {ps : List PyData} {tab : Tab}, (lkD tab k).isSome = true → (lkD (putAll rev tab ps) k).isSome = true
  | [], _, h => h
  | p :: ps, tab, h => by
    show (lkD (putAll rev (put1 rev tab p) ps) k).isSome = true
    refine lk_putAll ?_
    unfold put1
    split
    · rw [lk_put]; split
      · rfl
      · exact h
    · exact h
theorem lk_delAll {k : List Key} : ∀ {dl : List PyData} {tab : Tab}, k ∉ dl.map keyOf → lkD (delAll tab dl) k = lkD tab k
  | [], _, _ => rfl
  | d :: dl, tab, h => by
    rw [List.map_cons, List.mem_cons, not_or] at h
    show lkD (delAll (dropD tab (keyOf d)) dl) k = _
    rw [lk_delAll h.2, lk_drop, if_neg h.1]
theorem nodup_at {α : Type} {l : List α} {i : Nat} {x : α} (h : l.Nodup) (hx : l[i]? = some x) : x ∉ l.take i := by
  intro hm
  obtain ⟨j, hj⟩ := List.getElem?_of_mem hm
  have hji := (List.getElem?_eq_some_iff.mp hj).1
  rw [List.length_take] at hji
  rw [List.getElem?_take_of_lt (by omega)] at hj
  have h1 := (List.getElem?_eq_some_iff.mp hx)
  have h2 := (List.getElem?_eq_some_iff.mp hj)
  have := (List.getElem_inj h (h₀ := h2.1) (h₁ := h1.1)).mp (h2.2.trans h1.2.symm)
  omega
theorem canDo_of {m : SM} {p d : List PyData} (hm : StoOk m) (hp : p.length ≤ 12) (hd : d.length ≤ 12) (h1 : p.all isPut = true) (h2 : d.all isDel = true) (h3 : distD (p.map put2 ++ d) = true) (hh : ∀ x ∈ d, hasB m.tab x = true) : CanDo m p d where
  wf := hm.wf
  lt := by have := hm.lt; omega
  lc := by have := hm.lc; omega
  lp := by omega
  ld := by omega
  p := fun x hx => put_3 (List.all_eq_true.mp h1 x hx)
  d := fun x hx => del_2S (List.all_eq_true.mp h2 x hx)
  g := fun i x hx => by
    have hN : ((p.map put2 ++ d).map keyOf).Nodup := of_decide_eq_true h3
    rw [List.map_append] at hN
    have hN2 := (List.nodup_append.mp hN).2.1
    have hk : (d.map keyOf)[i]? = some (keyOf x) := by rw [List.getElem?_map, hx]; rfl
    have := nodup_at hN2 hk
    rw [← List.map_take] at this
    rw [lk_delAll this]
    exact lk_putAll (hh x (List.mem_of_getElem? hx))
theorem okx_bools : ∀ bs : List Bool, bs.length ≤ 1000 → okx 8 (.list (bs.map .bool)) = true := fun bs hl => by
  unfold okx
  rw [Bool.and_eq_true, List.all_eq_true]
  refine ⟨decide_eq_true (by rw [List.length_map]; omega), fun d hd => ?_⟩
  obtain ⟨b, _, rfl⟩ := List.mem_map.mp hd
  rfl
theorem any_false (bs : List Bool) : ((bs.map .bool).any fun z => PyData.eqv z (.bool false)) = !bs.all id := by
  induction bs with
  | nil => rfl
  | cons b bs ih =>
    rw [List.map_cons, List.any_cons, List.all_cons, ih]
    cases b <;> rfl
theorem first_false : ∀ {bs : List Bool}, bs.all id = false → ∃ j : Nat, bs[j]? = some false ∧ ∀ i : Nat, i < j → bs[i]? ≠ some false
  | [], h => by cases h
  | false :: bs, _ => ⟨0, rfl, fun i hi => by omega⟩
  | true :: bs, h => by
    rw [List.all_cons] at h
    obtain ⟨j, h1, h2⟩ := first_false (bs := bs) (by simpa using h)
    exact ⟨j + 1, h1, fun i hi => by
      cases i with
      | zero => intro z; cases z
      | succ i => exact h2 i (by omega)⟩
section
variable {P : Program} {w : World} {K : PySem.W.Frag} {mg : Str → Option Value} {base : Heap}
theorem ok_Store_apply (T : TX K mg w) (TB : LamX.TabB base mg T.cc__sorted_by_key T.pp__sorted_by_key) : FnOk P w K mg base (L2.CX P w) 8 T.a_Store_apply T.d_Store_apply ["self", "transaction"] (spM (sR K T) K SM.s (fun m ds => ∃ x, ds = [x] ∧ okx 8 x = true ∧ StoOk m) (fun m ds r m' => ∃ cs ps dl, ds = [.tuple [.tuple cs, .tuple ps, .tuple dl]] ∧ isTrans (.tuple [.tuple cs, .tuple ps, .tuple dl]) = true ∧ Ans m cs ps dl r m') fun _ ds C => C = T.a_BadTransaction ∧ ∃ x, ds = [x] ∧ isTrans x = false) := by
  refine okMX T.F_Store_apply sc_Store_apply 8 rfl (fun m ds ⟨x, e, _⟩ => by rw [e]; rfl) fun cdv A outer s H E hr => ⟨_, (pss_cons (ps_expr (pe_call (ok_check_transaction T) (hr.mono (by decide)) (by rfl) T.g_check_transaction T.F_check_transaction.kp T.b_check_transaction .nil (passes_call (takes_of rfl rfl rfl rfl) (fun _ _ _ _ h => h)) (pa_cons (pv 1) pa_nil)))
      (pss_cons (ps_asg (pv 1) (pgK_tup (K := K) (n := 3) rfl rfl (pgs_cons (pg_name (i := 2) sc_Store_apply.nd rfl (Or.inl rfl)) (pgs_cons (pg_name (i := 3) sc_Store_apply.nd rfl (Or.inl rfl)) (pgs_cons (pg_name (i := 4) sc_Store_apply.nd rfl (Or.inl rfl)) pgs_nil)))))
      (pss_cons (ps_setLc (i := 5) (own := [("kind", 6), ("name", 7), ("revision", 8)])  (tt := tYes) (by rfl) sc_Store_apply.nd rfl rfl (sw_true rfl rfl rfl (by decide +kernel)) (piK_tup (K := K) rfl (pv 2)) (blkOk_by (own := [("kind", 6), ("name", 7), ("revision", 8)]) (N := ["self", "transaction", "conditions", "puts", "deletes", "holds", "kind", "name", "revision", "key"]) (sc := defScope s_Store_apply) (by decide +kernel)) (fun _ _ _ _ _ => (pgK_tup (K := K) (n := 3) rfl rfl (pgs_cons (pg_name (i := 6) sc_Store_apply.nd rfl (Or.inl rfl)) (pgs_cons (pg_name (i := 7) sc_Store_apply.nd rfl (Or.inl rfl)) (pgs_cons (pg_name (i := 8) sc_Store_apply.nd rfl (Or.inl rfl)) pgs_nil))))) (fun _ _ _ _ _ => pts_nil) (fun _ _ _ _ _ => (pe_meth (pv 0) T.K_Store T.m_Store__holds (ok_Store__holds T) (hr.mono (by decide)) T.b_Store__holds .nil pass0 (pa_cons (pv 6) (pa_cons (pv 7) (pa_cons (pv 8) pa_nil))))))
      (pss_cons (ps_expr (peK_bm (K := K) rfl PySem.F.plainAttrs_list PySem.F.slot_list_extend PySem.F.type_list_extend mt_extend (pv 5) (pa_cons (pe_lc (own := [("key", 9)]) (g := gName 9) (tt := tYes) (by rfl) sc_Store_apply.nd (piK_tup (K := K) rfl (pv 4)) (blkOk_by (own := [("key", 9)]) (N := ["self", "transaction", "conditions", "puts", "deletes", "holds", "kind", "name", "revision", "key"]) (sc := defScope s_Store_apply) (by decide +kernel)) (fun _ _ _ _ _ => pg_name (i := 9) sc_Store_apply.nd rfl (Or.inl rfl)) (fun _ _ _ _ _ => pts_nil) (fun _ _ _ _ _ => (pe_cmp (pc_din (hu_of hr) (pv 9) (pe_fldK (K := K) rfl (pv 0) rfl)) rfl))) pa_nil)))
      (pss_cons (ps_if (pt_cmpR (opK_inD (K := K) rfl (hu65 hr)) pe_bl (pv 5) rfl) (pss_one (ps_ret (pe_tup (pa_cons pe_str (pa_cons (peK_bm (K := K) rfl PySem.F.plainAttrs_list PySem.F.slot_list_index PySem.F.type_list_index (mtK_index (K := K) rfl) (pv 5) (pa_cons pe_bl pa_nil)) pa_nil))))) pss_nil)
      (pss_cons (ps_if (PW.pt (pw_or (ptK_truth (K := K) rfl (pv 3) (by intro _; rfl)) (pw_or1 (ptK_truth (K := K) rfl (pv 4) (by intro _; rfl))))) (pss_one (ps_expr (pe_meth (pv 0) T.K_Store T.m_Store__change (ok_Store__change T TB) (hr.mono (by decide)) T.b_Store__change .nil pass0 (pa_cons (pv 3) (pa_cons (pv 4) pa_nil))))) pss_nil)
      (pss_one (ps_ret (pe_tup (pa_cons pe_str (pa_cons (pe_fldK (K := K) rfl (pv 0) rfl) pa_nil))))))))))), fun m ds hd => ?_⟩
  obtain ⟨x, rfl, ho, hs⟩ := hd
  have kC := T.K_Store
  have n1 := T.na_Store__table
  have n2 := T.na_Store_revision
  have n3 := T.na_Store__changes
  walk_at "pn"
  walk_at "px"
  refine we_callXX ?_
  walk_at "px"
  refine ⟨fun C ⟨y, e, hb, eC⟩ => (by cases e; exact ⟨⟨⟨eC, _, rfl, hb⟩, rfl⟩, rfl⟩), fun r hr0 => ?_⟩
  obtain ⟨ht, er0⟩ := hr0 _ rfl
  subst er0
  obtain ⟨c, p, d, rfl, c1, c2, c3, c4, c5, c6, c7⟩ := isTrans_tup ht
  walk_at "px"
  refine we_lcM (by walk_at "ww") rfl ?_
  walk_at "px"
  refine ⟨fun x => .bool (holdB m.tab x), by omega, fun x hx => ?_, ?_⟩
  · obtain ⟨a, b, i, rfl⟩ := cond_3 (List.all_eq_true.mp c4 x hx)
    walk_at "px"
    refine we_meth (at_ := SM.s) (clsS fun _ => rfl) rfl ?_
    walk_at "px"
    refine ⟨⟨a, b, i, rfl, fun e he => hs.wf _ e he⟩, fun _ z => z, fun r m2 ⟨e1, e2⟩ => ?_⟩
    walk_at "px"
    try (refine ⟨e1, ?_⟩)
    rw [e2 a b i rfl]
    rfl
  walk_at "pn"
  walk_at "px"
  refine we_lcM (by walk_at "ww") rfl ?_
  walk_at "px"
  refine ⟨fun x => .bool (hasB m.tab x), by omega, fun x hx => ?_, ?_⟩
  · obtain ⟨a, b, rfl⟩ := del_2S (List.all_eq_true.mp c6 x hx)
    walk_at "px"
    rfl
  walk_at "px"
  have eL : List.map (fun x => PyData.bool (holdB m.tab x)) c ++ List.map (fun x => PyData.bool (hasB m.tab x)) d = (heldL m.tab c d).map .bool := by
    unfold heldL
    rw [List.map_append, List.map_map, List.map_map]
    rfl
  have hl : (heldL m.tab c d).length ≤ 24 := by
    unfold heldL
    rw [List.length_append, List.length_map, List.length_map]
    omega
  refine ⟨by rw [List.length_map, List.length_map]; omega, ?_⟩
  rw [eL]
  have hall : ∀ x ∈ d, (heldL m.tab c d).all id = true → hasB m.tab x = true := fun x hx ha => List.all_eq_true.mp ha _ (List.mem_append.mpr (.inr (List.mem_map_of_mem hx)))
  have hans : ∀ r m', ((heldL m.tab c d).all id = true → m' = newSt m p d ∧ r = .d (.tuple [.str "done", .int m'.rev])) ∧ ((heldL m.tab c d).all id = false → m' = m ∧ ∃ j : Nat, r = .d (.tuple [.str "no", .int j]) ∧ (heldL m.tab c d)[j]? = some false ∧ ∀ i : Nat, i < j → (heldL m.tab c d)[i]? ≠ some false) → Ans m c p d r m' := fun _ _ h => h
  generalize heldL m.tab c d = bs at *
  have hso := okx_bools bs (by omega)
  walk_at "pn"
  walk_at "px"
  rw [any_false]
  cases hb : bs.all id with
  | false =>
    obtain ⟨j, hj, hn⟩ := first_false hb
    refine ⟨fun _ => ?_, fun z => (by cases z)⟩
    walk_at "px"
    refine we_idxF ?_
    walk_at "px"
    exact j
    refine ⟨hj, hn, ?_⟩
    walk_at "px"
    exact hans _ _ ⟨fun z => (by rw [hb] at z; cases z), fun _ => ⟨rfl, _, rfl, hj, hn⟩⟩
  | true =>
    refine ⟨fun z => (by cases z), fun _ => ?_⟩
    have hcd : CanDo m p d := canDo_of hs c2 c3 c5 c6 c7 fun x hx => hall x hx hb
    cases p with
    | nil =>
      cases d with
      | nil =>
        walk_at "px"
        exact hans _ _ ⟨fun _ => ⟨rfl, rfl⟩, fun z => (by rw [hb] at z; cases z)⟩
      | cons y d =>
        walk_at "px"
        refine we_meth (at_ := SM.s) (clsS fun _ => rfl) rfl ?_
        walk_at "px"
        refine ⟨⟨_, _, rfl, hcd⟩, fun _ z => z, fun r m2 hq => ?_⟩
        obtain ⟨rfl, rfl⟩ := hq _ _ rfl
        walk_at "px"
        exact hans _ _ ⟨fun _ => ⟨rfl, rfl⟩, fun z => (by rw [hb] at z; cases z)⟩
    | cons y p =>
      walk_at "px"
      refine we_meth (at_ := SM.s) (clsS fun _ => rfl) rfl ?_
      walk_at "px"
      refine ⟨⟨_, _, rfl, hcd⟩, fun _ z => z, fun r m2 hq => ?_⟩
      obtain ⟨rfl, rfl⟩ := hq _ _ rfl
      walk_at "px"
      exact hans _ _ ⟨fun _ => ⟨rfl, rfl⟩, fun z => (by rw [hb] at z; cases z)⟩
end
/-! the store's entries -/
section
variable {P : Program} {w : World} {K : PySem.W.Frag} {mg : Str → Option Value} {base : Heap}
theorem ok_Store_entries (T : TX K mg w) : FnOk P w K mg base CX0 1 T.a_Store_entries T.d_Store_entries ["self"] (spM (stoR K T.a_Store T.pp__sorted_by_key sbkQ) K SM.s (fun m ds => ds = [] ∧ TabOk m.tab ∧ m.tab.length ≤ 80000) (fun m _ r m' => m' = m ∧ r = .o (entsD m.tab)) fun _ _ _ => False) := by
  refine okM T.F_Store_entries sc_Store_entries 1 rfl (fun m ds ⟨e, _⟩ => by rw [e]; rfl) fun cdv A outer s H E hr => ⟨_, (pss_one (ps_ret (pe_lc (own := [("key", 1)]) (g := gName 1) (tt := tYes) (by rfl) sc_Store_entries.nd (piK_list (K := K) rfl (pe_callB (call_sortKT rfl (Nat.lt_of_le_of_lt (Nat.add_le_add_left (by decide : 8 ≤ 65) _) (hu65 hr))) (by rfl) T.n_sorted (by decide +kernel) (pa_cons (pe_fldK (K := K) rfl (pv 0) rfl) pa_nil))) (blkOk_by (own := [("key", 1)]) (N := ["self", "key"]) (sc := defScope s_Store_entries) (by decide +kernel)) (fun _ _ _ _ _ => pg_name (i := 1) sc_Store_entries.nd rfl (Or.inl rfl)) (fun _ _ _ _ _ => pts_nil) (fun _ _ _ _ _ => (pe_op (opK_catA (K := K) rfl) (pv 1) (pe_dget (hu_of hr) (pe_fldK (K := K) rfl (pv 0) rfl) (pv 1) (fun _ _ => rfl))))))), fun m ds hd => ?_⟩
  obtain ⟨rfl, hT, hl⟩ := hd
  have kC := T.K_Store
  have n1 := T.na_Store__table
  walk_at "pn"
  refine ws_ret (we_ents kC n1 rfl (by decide) (Nat.le_refl 2) hT hl ⟨rfl, rfl⟩)
end
section
variable {P : Program} {w : World} {K : PySem.W.Frag} {mg : Str → Option Value} {base : Heap}
theorem ok_Store___init__ (T : TX K mg w) : FnOk P w K mg base CX0 1 T.a_Store___init__ T.d_Store___init__ ["self"] (sp_snew T.a_Store) := by
  refine T.F_Store___init__.ok sc_Store___init__ (fun vs H Q E h => ?_) (fun cdv A outer s H vs Q E hr h => ?_)
  · obtain ⟨p, dx, rfl, _⟩ := h
    rfl
  · obtain ⟨p, dx, rfl, hp, q⟩ := h
    refine ⟨_, (pss_cons (ps_fld (pv 0) pe_int rfl)
      (pss_cons (ps_fld (pv 0) pe_int rfl)
      (pss_cons (ps_fld (pv 0) pe_dnewT rfl)
      (pss_one (ps_fld (pv 0) (pe_lst pa_nil) rfl))))), ?_⟩
    have kC := T.K_Store
    refine ⟨_, rfl, p, T.a_Store, dx, [], rfl, hp, kC, T.na_Store_revision, (by show 0 < 1000; decide), ?_⟩
    refine ⟨_, rfl, p, T.a_Store, dx, _, rfl, upd_same, kC, T.na_Store_oldest, (by show 1 < 1000; decide), ?_⟩
    refine fun t ht => ⟨_, rfl, p, T.a_Store, dx, putF "oldest" (V.int 0) (putF "revision" (V.int 0) []), rfl, ?_, kC, T.na_Store__table, (by show 2 < 1000; decide), ?_⟩
    · rw [upd_ne (fun z => by rw [← z, upd_same] at ht; cases ht), upd_same]
    refine ⟨by decide, fun c hc => ⟨_, rfl, p, T.a_Store, dx, putF "_table" (V.ref t) (putF "oldest" (V.int 0) (putF "revision" (V.int 0) [])), rfl, ?_, kC, T.na_Store__changes, (by show 3 < 1000; decide), ?_⟩⟩
    · rw [upd_ne (fun z => by rw [← z, upd_same] at hc; cases hc), upd_same]
    have nt : t ≠ p := fun z => by rw [z, upd_same] at ht; cases ht
    have nc : c ≠ p := fun z => by rw [z, upd_same] at hc; cases hc
    have ht0 : H t = none := by rw [upd_ne nt, upd_ne nt] at ht; exact ht
    rw [upd_ne nc] at hc
    have ntc : t ≠ c := fun z => by rw [← z, upd_same] at hc; cases hc
    have hc0 : H c = none := by rw [upd_ne ntc.symm, upd_ne nc, upd_ne nc] at hc; exact hc
    refine q t c _ ht0 hc0 ntc ?_ ?_ ?_ fun x o hx hxp => ?_
    · rw [upd_same]; rfl
    · rw [upd_ne nt, upd_ne ntc, upd_ne nt, upd_same]
    · rw [upd_ne nc, upd_same]
    · rw [upd_ne hxp, upd_ne (ne_of_none hx hc0), upd_ne hxp, upd_ne (ne_of_none hx ht0), upd_ne hxp, upd_ne hxp]
      exact hx
end
/-! # what holds of every store -/
theorem okx_in {n : Nat} {xs : List PyData} {x : PyData} (h : okx (n + 1) (.tuple xs) = true) (hx : x ∈ xs) : okx n x = true := by
  unfold okx at h
  rw [Bool.and_eq_true, List.all_eq_true] at h
  exact h.2 x hx
structure SI (m : SM) : Prop where
  nd : (m.tab.map Prod.fst).Nodup
  o : ∀ z ∈ m.tab, ∃ x y b v c, z = ([.inr x, .inr y], .tuple [.int b, .int v, c]) ∧ isObj (.str x) (.str y) c = true ∧ okx 6 (.tuple [.str x, .str y, c]) = true ∧ 1 ≤ b ∧ b ≤ v ∧ v ≤ m.rev
  r0 : 0 ≤ m.rev
  tl : m.tab.length ≤ 12 * m.rev.toNat
  cl : m.chs.length ≤ m.rev.toNat
theorem SI.tab {m : SM} (h : SI m) : TabOk m.tab where
  nd := h.nd
  k := fun z hz => by obtain ⟨x, y, b, v, c, rfl, _⟩ := h.o z hz; exact ⟨x, y, rfl⟩
  v := fun z hz => by obtain ⟨x, y, b, v, c, rfl, _⟩ := h.o z hz; exact ⟨b, v, c, rfl⟩
theorem SI.wf {m : SM} (h : SI m) : WfTab m.tab := fun k d e => by
  obtain ⟨x, y, b, v, c, e2, _⟩ := h.o _ (mem_lk e)
  cases e2
  exact ⟨b, v, c, rfl⟩
theorem SI.ok {m : SM} (h : SI m) (hr : m.rev ≤ 5000) : StoOk m := ⟨h.wf, by have := h.tl; have := h.r0; omega, by have := h.cl; have := h.r0; omega⟩
theorem SI.zero {s t c : Addr} : SI (sm0 s t c) := ⟨by simp [sm0], fun z hz => (by cases hz), Int.le_refl _, by simp [sm0], by simp [sm0]⟩
theorem put_keys {tab : Tab} {k : List Key} {d : PyData} (h : (tab.map Prod.fst).Nodup) : ((putD tab k d).map Prod.fst).Nodup := by
  unfold putD
  split
  · have : (tab.map (fun z => if z.1 = k then (z.1, d) else z)).map Prod.fst = tab.map Prod.fst := by
      rw [List.map_map]
      refine List.map_congr_left fun z _ => ?_
      show (if z.1 = k then (z.1, d) else z).1 = z.1
      split <;> rfl
    rw [this]; exact h
  · next hn =>
    rw [List.map_append, List.nodup_append]
    refine ⟨h, by simp, fun a ha b hb e => ?_⟩
    rw [List.map_singleton, List.mem_singleton] at hb
    obtain ⟨z, hz, e2⟩ := List.mem_map.mp ha
    exact hn (List.any_eq_true.mpr ⟨z, hz, decide_eq_true (by rw [e2, e, hb])⟩)
theorem put_mem {tab : Tab} {k : List Key} {d : PyData} {z : List Key × PyData} (h : z ∈ putD tab k d) : z = (k, d) ∨ z ∈ tab := by
  unfold putD at h
  split at h
  · obtain ⟨y, hy, e⟩ := List.mem_map.mp h
    by_cases hk : y.1 = k
    · rw [if_pos hk] at e; exact .inl (by rw [← e, hk])
    · rw [if_neg hk] at e; exact .inr (by rw [← e]; exact hy)
  · rcases List.mem_append.mp h with h | h
    · exact .inr h
    · exact .inl (List.mem_singleton.mp h)
theorem drop_keys {tab : Tab} {k : List Key} (h : (tab.map Prod.fst).Nodup) : ((dropD tab k).map Prod.fst).Nodup :=
  h.sublist ((List.filter_sublist).map _)
/-- the table part of it, for a revision n -/
def TI' (n : Int) (tab : Tab) : Prop := (tab.map Prod.fst).Nodup ∧ ∀ z ∈ tab, ∃ x y b v c, z = ([.inr x, .inr y], .tuple [.int b, .int v, c]) ∧ isObj (.str x) (.str y) c = true ∧ okx 6 (.tuple [.str x, .str y, c]) = true ∧ 1 ≤ b ∧ b ≤ v ∧ v ≤ n
theorem TI'.put {n : Int} {tab : Tab} (h : TI' n tab) (hn : 1 ≤ n) {p : PyData} (hp : isPut p = true) (ho : okx 6 p = true) : TI' n (put1 n tab p) := by
  unfold isPut at hp
  split at hp
  · rename_i k nm v
    have hk : isKy k nm = true := ((Bool.and_eq_true _ _).mp hp).1
    obtain ⟨x, y, rfl, rfl⟩ := ky_str hk
    show TI' n (putD tab [.inr x, .inr y] (.tuple [bornOf tab [.inr x, .inr y] n, .int n, v]))
    have hb : ∃ b, bornOf tab [.inr x, .inr y] n = .int b ∧ 1 ≤ b ∧ b ≤ n := by
      unfold bornOf
      cases hq : lkD tab [.inr x, .inr y] with
      | none => exact ⟨n, rfl, hn, Int.le_refl _⟩
      | some d =>
        obtain ⟨x', y', b, v, c, e, _, _, h1, h2, h3⟩ := h.2 _ (mem_lk hq)
        cases e
        exact ⟨b, rfl, h1, by omega⟩
    obtain ⟨b, eb, h1, h2⟩ := hb
    rw [eb]
    refine ⟨put_keys h.1, fun z hz => ?_⟩
    rcases put_mem hz with rfl | hz
    · exact ⟨x, y, b, n, v, rfl, hp, ho, h1, h2, Int.le_refl _⟩
    · exact h.2 z hz
  · cases hp
theorem TI'.putAll {n : Int} (hn : 1 ≤ n) : ∀ (ps : List PyData) (tab : Tab), TI' n tab → (∀ p ∈ ps, isPut p = true ∧ okx 6 p = true) → TI' n (putAll n tab ps)
  | [], _, h, _ => h
  | p :: ps, tab, h, hp => by
    have h1 := hp p (List.mem_cons_self ..)
    exact TI'.putAll hn ps _ (h.put hn h1.1 h1.2) fun q hq => hp q (List.mem_cons_of_mem _ hq)
theorem TI'.drop {n : Int} {tab : Tab} {k : List Key} (h : TI' n tab) : TI' n (dropD tab k) := ⟨drop_keys h.1, fun z hz => h.2 z (List.mem_filter.mp hz).1⟩
theorem TI'.delAll {n : Int} : ∀ {ds : List PyData} {tab : Tab}, TI' n tab → TI' n (delAll tab ds)
  | [], _, h => h
  | d :: ds, tab, h => TI'.delAll (ds := ds) (tab := dropD tab (keyOf d)) h.drop
theorem putAll_len {n : Int} : ∀ {ps : List PyData} {tab : Tab}, (putAll n tab ps).length ≤ tab.length + ps.length
  | [], _ => Nat.le_refl _
  | p :: ps, tab => by
    have h1 : (put1 n tab p).length ≤ tab.length + 1 := by
      unfold put1
      split
      · exact put_len
      · omega
    have h2 := putAll_len (n := n) (ps := ps) (tab := put1 n tab p)
    show (putAll n (put1 n tab p) ps).length ≤ _
    rw [List.length_cons]
    omega
theorem delAll_len : ∀ {ds : List PyData} {tab : Tab}, (delAll tab ds).length ≤ tab.length
  | [], _ => Nat.le_refl _
  | d :: ds, tab => Nat.le_trans (delAll_len (ds := ds) (tab := dropD tab (keyOf d))) (List.length_filter_le _ _)
theorem SI.chg {m : SM} (h : SI m) {cs ps dl : List PyData} (ht : isTrans (.tuple [.tuple cs, .tuple ps, .tuple dl]) = true) (ho : okx 8 (.tuple [.tuple cs, .tuple ps, .tuple dl]) = true) : SI (chg m ps dl) := by
  obtain ⟨c, p, d, e, c1, c2, c3, c4, c5, c6, c7⟩ := isTrans_tup ht
  cases e
  have h6 : okx 7 (.tuple ps) = true := okx_in ho (by simp)
  have hp : ∀ p ∈ ps, isPut p = true ∧ okx 6 p = true := fun p hp => ⟨List.all_eq_true.mp c5 p hp, okx_in h6 hp⟩
  have r0 := h.r0
  have hT : TI' (m.rev + 1) m.tab := ⟨h.nd, fun z hz => by
    obtain ⟨x, y, b, v, c, e, h1, h2, h3, h4, h5⟩ := h.o z hz
    exact ⟨x, y, b, v, c, e, h1, h2, h3, h4, by omega⟩⟩
  have hT2 : TI' (m.rev + 1) (delAll (putAll (m.rev + 1) m.tab ps) dl) := TI'.delAll (TI'.putAll (by omega) _ _ hT hp)
  refine ⟨hT2.1, hT2.2, by show 0 ≤ m.rev + 1; omega, ?_, ?_⟩
  · have h1 := delAll_len (ds := dl) (tab := putAll (m.rev + 1) m.tab ps)
    have h2 := putAll_len (n := m.rev + 1) (ps := ps) (tab := m.tab)
    have h3 := h.tl
    show (delAll (putAll (m.rev + 1) m.tab ps) dl).length ≤ 12 * (m.rev + 1).toNat
    omega
  · have h3 := h.cl
    show (m.chs ++ [_]).length ≤ (m.rev + 1).toNat
    rw [List.length_append]
    show m.chs.length + 1 ≤ _
    omega
theorem SI.new {m : SM} (h : SI m) {cs ps dl : List PyData} (ht : isTrans (.tuple [.tuple cs, .tuple ps, .tuple dl]) = true) (ho : okx 8 (.tuple [.tuple cs, .tuple ps, .tuple dl]) = true) : SI (newSt m ps dl) := by
  unfold newSt
  split
  · exact h
  · exact h.chg ht ho
/-- the entries as a row are data that can be compared -/
theorem SI.row {m : SM} (h : SI m) {r : PyData} (hr : r ∈ entsD m.tab) : ∃ x y b v c, r = .tuple [.str x, .str y, .int b, .int v, c] ∧ lkD m.tab [.inr x, .inr y] = some (.tuple [.int b, .int v, c]) ∧ isObj (.str x) (.str y) c = true ∧ okx 6 (.tuple [.str x, .str y, c]) = true ∧ 1 ≤ b ∧ b ≤ v ∧ v ≤ m.rev := by
  obtain ⟨z, hz, rfl⟩ := List.mem_map.mp hr
  have hm := srt_mem.mp hz
  obtain ⟨k, n, b, v, c, rfl, h1, h2, h3, h4, h5⟩ := h.o z hm
  exact ⟨k, n, b, v, c, rfl, lk_mem h.nd hm, h1, h2, h3, h4, h5⟩
theorem ents_len (tab : Tab) : (entsD tab).length = tab.length := by
  unfold entsD
  rw [List.length_map]; exact srt_len _
theorem okx_all {n : Nat} {xs : List PyData} (h : okx (n + 1) (.tuple xs) = true) : ∀ x ∈ xs, okx n x = true := fun _ => okx_in h
theorem okx_row {x y : Str} {b v : Int} {c : PyData} (h : okx 6 (.tuple [.str x, .str y, c]) = true) : okx 6 (.tuple [.str x, .str y, .int b, .int v, c]) = true := by
  refine okx_tup_of (by show 5 ≤ _; omega) fun z hz => ?_
  simp only [List.mem_cons, List.not_mem_nil, or_false] at hz
  rcases hz with rfl | rfl | rfl | rfl | rfl
  · exact okx_in h (by simp)
  · exact okx_in h (by simp)
  · rfl
  · rfl
  · exact okx_in h (by simp)
theorem SI.okE {m : SM} (h : SI m) (hr : m.rev ≤ 5000) : okx 8 (.list (entsD m.tab)) = true := by
  refine okx_lst_of (by rw [ents_len]; have := h.tl; have := h.r0; omega) fun r hr => ?_
  obtain ⟨x, y, b, v, c, rfl, _, _, h2, _⟩ := h.row hr
  exact okx_mono (n := 6) (by omega) (okx_row h2)
/-- an entry of the store -/
theorem SI.ent {m : SM} (h : SI m) {x y : Str} {d : PyData} (e : lkD m.tab [.inr x, .inr y] = some d) : ∃ b v c, d = .tuple [.int b, .int v, c] ∧ isObj (.str x) (.str y) c = true ∧ okx 6 (.tuple [.str x, .str y, c]) = true ∧ 1 ≤ b ∧ b ≤ v ∧ v ≤ m.rev := by
  obtain ⟨x', y', b, v, c, e2, h1⟩ := h.o _ (mem_lk e)
  cases e2
  exact ⟨b, v, c, rfl, h1⟩
theorem eqv_okE {n : Nat} {d : PyData} (h : okx n d = true) (hn : n ≤ 64 := by decide) : PyData.eqv d d = true := PySem.SeqAt.eqv_refl d (SeqAt.canLay_of_shaped (okx_sh h hn))
theorem okx_tupJ {n : Nat} {xs : List PyData} (hl : xs.length ≤ 1000) (h : ∀ x ∈ xs, okx n x = true) : okx (n + 1) (.tuple xs) = true := okx_tup_of (by omega) h
theorem okx_dn {v : Int} : okx 8 (.tuple [.str "done", .int v]) = true := by
  refine okx_tupJ (by show 2 ≤ 1000; omega) fun x hx => ?_
  simp only [List.mem_cons, List.not_mem_nil, or_false] at hx
  rcases hx with rfl | rfl
  · decide +kernel
  · rfl
theorem okx_no {v : Int} : okx 8 (.tuple [.str "no", .int v]) = true := by
  refine okx_tupJ (by show 2 ≤ 1000; omega) fun x hx => ?_
  simp only [List.mem_cons, List.not_mem_nil, or_false] at hx
  rcases hx with rfl | rfl
  · decide +kernel
  · rfl
section
variable {K : PySem.W.Frag} {C P : Addr} {q : Str} {E E' : XK} {XP : Addr → SM → Prop} {ρ : List Sl} {m : SM} {k : Rk → SM → Prop} {i : Nat}
abbrev spEnts (K : PySem.W.Frag) (C P : Addr) (q : Str) : Sp := spM (stoR K C P q) K SM.s (fun m ds => ds = [] ∧ TabOk m.tab ∧ m.tab.length ≤ 80000) (fun m _ r m' => m' = m ∧ r = .o (entsD m.tab)) fun _ _ _ => False
theorem we_entM (hi : ρ[i]? = some (.v (.ref m.s))) (hs : SI m) (hr : m.rev ≤ 5000) (hk : k (.o (entsD m.tab)) m) : WE (stoR K C P q) K E XP ρ m (tMeth C "entries" (spEnts K C P q) [] E' (tVar i) tNil) k :=
  we_meth (at_ := SM.s) (clsS fun _ => rfl) hi (wa_nil ⟨[], rfl, rfl, ⟨rfl, hs.tab, by have := hs.tl; have := hs.r0; omega⟩, fun _ z => z, fun r m2 ⟨e1, e2⟩ => by rw [e1, e2]; exact hk⟩)
end
theorem SI.entO {m : SM} (h : SI m) {x y : Str} {d : PyData} (e : lkD m.tab [.inr x, .inr y] = some d) : okx 8 d = true := by
  obtain ⟨b, v, c, rfl, _, h2, _⟩ := h.ent e
  refine okx_tupJ (by show 3 ≤ 1000; omega) fun z hz => ?_
  simp only [List.mem_cons, List.not_mem_nil, or_false] at hz
  rcases hz with rfl | rfl | rfl
  · rfl
  · rfl
  · exact okx_mono (n := 5) (by omega) (okx_in h2 (by simp))
/-! # rows in ascending order of their keys -/
open PySem.W in
theorem lt_asymm {x y : PyData} (h : dataLt x y = true) : dataLt y x = false := by
  rw [Bool.eq_false_iff]
  intro g
  have := lex_trans _ _ _ h g
  rw [lex_irrefl] at this
  cases this
open PySem.W in
theorem le_trans' {α : Type} (k : α → PyData) (a b c : α) (h1 : dataLe false k a b = true) (h2 : dataLe false k b c = true) : dataLe false k a c = true := by
  have g1 : (!dataLt (k b) (k a)) = true := h1
  have g2 : (!dataLt (k c) (k b)) = true := h2
  show (!dataLt (k c) (k a)) = true
  rw [Bool.not_eq_true'] at g1 g2 ⊢
  rw [Bool.eq_false_iff]
  intro h
  rcases lex_negTrans _ (keyToks (k b)) _ h with z | z
  · have : dataLt (k c) (k b) = true := z
    rw [this] at g2; cases g2
  · have : dataLt (k b) (k a) = true := z
    rw [this] at g1; cases g1
open PySem.W in
theorem le_total' {α : Type} (k : α → PyData) (a b : α) : (dataLe false k a b || dataLe false k b a) = true := by
  show (!dataLt (k b) (k a) || !dataLt (k a) (k b)) = true
  cases h : dataLt (k b) (k a) with
  | false => rfl
  | true => rw [lt_asymm h]; rfl
/-- less, by key -/
def ltK (a b : List Key) : Bool := PySem.W.dataLt (keyD a) (keyD b)
theorem ltK_irr (a : List Key) : ltK a a = false := lex_irrefl _
theorem ltK_trans {a b c : List Key} (h : ltK a b = true) (g : ltK b c = true) : ltK a c = true := lex_trans _ _ _ h g
theorem str_ext {x y : Str} (h : x.cps.toList = y.cps.toList) : x = y := by
  cases x; cases y
  exact congrArg _ (Array.ext' h)
theorem str_tri (x y : Str) : x.cps.toList < y.cps.toList ∨ x = y ∨ y.cps.toList < x.cps.toList := by
  by_cases h : x.cps.toList < y.cps.toList
  · exact .inl h
  · by_cases g : y.cps.toList < x.cps.toList
    · exact .inr (.inr g)
    · exact .inr (.inl (str_ext (List.le_antisymm (List.not_lt.mp g) (List.not_lt.mp h))))
theorem ltK_pair (a b c d : Str) : ltK [.inr a, .inr b] [.inr c, .inr d] = (decide (a.cps.toList < c.cps.toList) || (decide (a = c) && decide (b.cps.toList < d.cps.toList))) := by
  have h1 : PySem.W.alike (.str a) (.str c) = true := by simp [PySem.W.alike]
  have h2 : PySem.W.alike (.str b) (.str d) = true := by simp [PySem.W.alike]
  have e : ltK [.inr a, .inr b] [.inr c, .inr d] = PySem.W.dataLt (.tuple [.str a, .str b]) (.tuple [.str c, .str d]) := rfl
  rw [e, PySem.W.dataLt_pair h1 h2, PySem.W.dataLt_str, PySem.W.dataLt_str]
  have q1 : PyData.eqv (.str a) (.str c) = (a == c) := rfl
  have q2 : PyData.eqv (.str b) (.str d) = (b == d) := rfl
  rw [q1, q2]
  by_cases hac : a = c
  · subst hac
    rw [if_pos (by simp), decide_eq_false (List.lt_irrefl _), decide_eq_true rfl, Bool.false_or, Bool.true_and]
    by_cases hbd : b = d
    · subst hbd
      rw [if_pos (by simp), decide_eq_false (List.lt_irrefl _)]
    · rw [if_neg (by simp [hbd])]
  · rw [if_neg (by simp [hac]), decide_eq_false hac, Bool.false_and, Bool.or_false]
theorem ltK_tri {a b c d : Str} : ltK [.inr a, .inr b] [.inr c, .inr d] = true ∨ ([.inr a, .inr b] : List Key) = [.inr c, .inr d] ∨ ltK [.inr c, .inr d] [.inr a, .inr b] = true := by
  rw [ltK_pair, ltK_pair]
  rcases str_tri a c with h | h | h
  · exact .inl (by rw [decide_eq_true h]; rfl)
  · subst h
    rcases str_tri b d with g | g | g
    · exact .inl (by rw [decide_eq_true g, decide_eq_true rfl]; simp)
    · subst g; exact .inr (.inl rfl)
    · exact .inr (.inr (by rw [decide_eq_true g, decide_eq_true rfl]; simp))
  · exact .inr (.inr (by rw [decide_eq_true h]; rfl))
/-- the key of a row -/
def kR : PyData → List Key
  | .tuple (.str a :: .str b :: _) => [.inr a, .inr b]
  | _ => []
def isRow (r : PyData) : Prop := ∃ a b t, r = .tuple (.str a :: .str b :: t)
theorem isRow.pr {r : PyData} (h : isRow r) : ∃ a b, kR r = [.inr a, .inr b] := by
  obtain ⟨a, b, t, rfl⟩ := h
  exact ⟨a, b, rfl⟩
def Asc (xs : List PyData) : Prop := xs.Pairwise fun x y => ltK (kR x) (kR y) = true
theorem asc_ext : ∀ {xs ys : List PyData}, Asc xs → Asc ys → (∀ r, r ∈ xs ↔ r ∈ ys) → xs = ys
  | [], [], _, _, _ => rfl
  | [], b :: bs, _, _, h => absurd ((h b).mpr List.mem_cons_self) (by simp)
  | a :: as, [], _, _, h => absurd ((h a).mp List.mem_cons_self) (by simp)
  | a :: as, b :: bs, h1, h2, h => by
    have p1 := List.pairwise_cons.mp h1
    have p2 := List.pairwise_cons.mp h2
    have e : a = b := by
      rcases List.mem_cons.mp ((h a).mp List.mem_cons_self) with e | e
      · exact e
      · rcases List.mem_cons.mp ((h b).mpr List.mem_cons_self) with e2 | e2
        · exact e2.symm
        · have z := ltK_trans (p2.1 a e) (p1.1 b e2)
          rw [ltK_irr] at z; cases z
    subst e
    rw [asc_ext p1.2 p2.2 fun r => ?_]
    constructor
    · intro hr
      rcases List.mem_cons.mp ((h r).mp (List.mem_cons_of_mem _ hr)) with e | e
      · subst e
        have z := p1.1 r hr
        rw [ltK_irr] at z; cases z
      · exact e
    · intro hr
      rcases List.mem_cons.mp ((h r).mpr (List.mem_cons_of_mem _ hr)) with e | e
      · subst e
        have z := p2.1 r hr
        rw [ltK_irr] at z; cases z
      · exact e
/-- sorted by key, all keys different -/
theorem asc_sort {α : Type} {k : α → PyData} {f : α → PyData} {zs : List α} (hk : ∀ z ∈ zs, k z = keyD (kR (f z))) (hn : (zs.map fun z => kR (f z)).Nodup) (hp : ∀ z ∈ zs, isRow (f z)) : Asc ((zs.mergeSort (PySem.W.dataLe false k)).map f) := by
  have h1 := List.pairwise_mergeSort (le := PySem.W.dataLe false k) (le_trans' k) (le_total' k) zs
  have hperm := List.mergeSort_perm zs (PySem.W.dataLe false k)
  have h2 : ((zs.mergeSort (PySem.W.dataLe false k)).map fun z => kR (f z)).Nodup := (hperm.map _).nodup_iff.mpr hn
  unfold Asc
  rw [List.pairwise_map]
  have h3 : (zs.mergeSort (PySem.W.dataLe false k)).Pairwise fun x y => kR (f x) ≠ kR (f y) := List.pairwise_map.mp h2
  refine (h1.and h3).imp_of_mem fun {x y} hx hy ⟨g1, g2⟩ => ?_
  have mx := hperm.mem_iff.mp hx
  have my := hperm.mem_iff.mp hy
  obtain ⟨a, b, ex⟩ := (hp x mx).pr
  obtain ⟨c, d, ey⟩ := (hp y my).pr
  have g1 : (!PySem.W.dataLt (k y) (k x)) = true := g1
  rw [hk x mx, hk y my] at g1
  rw [ex, ey] at g1 g2 ⊢
  rcases ltK_tri (a := a) (b := b) (c := c) (d := d) with h | h | h
  · exact h
  · exact absurd h g2
  · have : PySem.W.dataLt (keyD [.inr c, .inr d]) (keyD [.inr a, .inr b]) = true := h
    rw [this] at g1; cases g1
/-! what the law does with rows -/
def lessD (x y : PyData) : Bool := ltK (kR x) (kR y)
def placeD (xs : List PyData) (e : PyData) : List PyData := xs.filter (fun x => lessD x e) ++ [e] ++ xs.filter (fun x => lessD e x)
theorem asc_place {xs : List PyData} {e : PyData} (h : Asc xs) : Asc (placeD xs e) := by
  unfold placeD Asc
  rw [List.append_assoc, List.singleton_append]
  rw [List.pairwise_append]
  refine ⟨h.filter _, ?_, fun x hx y hy => ?_⟩
  · rw [List.pairwise_cons]
    exact ⟨fun y hy => (List.mem_filter.mp hy).2, h.filter _⟩
  · have hx := (List.mem_filter.mp hx).2
    rcases List.mem_cons.mp hy with rfl | hy
    · exact hx
    · exact ltK_trans hx (List.mem_filter.mp hy).2
theorem mem_place {xs : List PyData} {e r : PyData} (hx : ∀ x ∈ xs, isRow x) (he : isRow e) : r ∈ placeD xs e ↔ r = e ∨ (r ∈ xs ∧ kR r ≠ kR e) := by
  unfold placeD
  rw [List.mem_append, List.mem_append, List.mem_singleton, List.mem_filter, List.mem_filter]
  obtain ⟨c, d, ee⟩ := he.pr
  constructor
  · rintro ((⟨h1, h2⟩ | h) | ⟨h1, h2⟩)
    · exact .inr ⟨h1, fun z => by
        have h2 : ltK (kR r) (kR e) = true := h2
        rw [z, ltK_irr] at h2; cases h2⟩
    · exact .inl h
    · exact .inr ⟨h1, fun z => by
        have h2 : ltK (kR e) (kR r) = true := h2
        rw [z, ltK_irr] at h2; cases h2⟩
  · rintro (h | ⟨h1, h2⟩)
    · exact .inl (.inr h)
    · obtain ⟨a, b, er⟩ := (hx r h1).pr
      rw [er, ee] at h2
      rcases ltK_tri (a := a) (b := b) (c := c) (d := d) with h | h | h
      · exact .inl (.inl ⟨h1, by show ltK (kR r) (kR e) = true; rw [er, ee]; exact h⟩)
      · exact absurd h h2
      · exact .inr ⟨h1, by show ltK (kR e) (kR r) = true; rw [er, ee]; exact h⟩
/-! the entries of a table -/
theorem row_key {z : List Key × PyData} (hp : Pr z.1) (hv : ∃ b v c, z.2 = .tuple [.int b, .int v, c]) : isRow (entRow z) ∧ kR (entRow z) = z.1 := by
  obtain ⟨k, d⟩ := z
  obtain ⟨x, y, rfl⟩ := hp
  obtain ⟨b, v, c, rfl⟩ := hv
  exact ⟨⟨x, y, _, rfl⟩, rfl⟩
theorem ents_asc {tab : Tab} (h : TabOk tab) : Asc (entsD tab) := by
  unfold entsD srtT srtK
  refine asc_sort (fun z hz => ?_) ?_ (fun z hz => (row_key (h.k z hz) (h.v z hz)).1)
  · rw [(row_key (h.k z hz) (h.v z hz)).2]
  · have : tab.map (fun z => kR (entRow z)) = tab.map Prod.fst := List.map_congr_left fun z hz => (row_key (h.k z hz) (h.v z hz)).2
    rw [this]; exact h.nd
theorem mem_ents {tab : Tab} (h : TabOk tab) {r : PyData} : r ∈ entsD tab ↔ ∃ k d, lkD tab k = some d ∧ r = entRow (k, d) := by
  unfold entsD
  rw [List.mem_map]
  constructor
  · rintro ⟨z, hz, rfl⟩
    have hm := srt_mem.mp hz
    exact ⟨z.1, z.2, lk_mem h.nd hm, rfl⟩
  · rintro ⟨k, d, e, rfl⟩
    exact ⟨(k, d), srt_mem.mpr (mem_lk e), rfl⟩
theorem ents_row {tab : Tab} (h : TabOk tab) : ∀ r ∈ entsD tab, isRow r := fun r hr => by
  obtain ⟨z, hz, rfl⟩ := List.mem_map.mp hr
  have hm := srt_mem.mp hz
  exact (row_key (h.k z hm) (h.v z hm)).1
theorem tab_put {tab : Tab} (h : TabOk tab) {k n : Str} {b v : Int} {c : PyData} : TabOk (putD tab [.inr k, .inr n] (.tuple [.int b, .int v, c])) where
  nd := put_keys h.nd
  k := fun z hz => by
    rcases put_mem hz with rfl | hz
    · exact ⟨k, n, rfl⟩
    · exact h.k z hz
  v := fun z hz => by
    rcases put_mem hz with rfl | hz
    · exact ⟨b, v, c, rfl⟩
    · exact h.v z hz
theorem tab_drop {tab : Tab} (h : TabOk tab) {k : List Key} : TabOk (dropD tab k) := ⟨drop_keys h.nd, fun z hz => h.k z (List.mem_filter.mp hz).1, fun z hz => h.v z (List.mem_filter.mp hz).1⟩
/-- a row put in its place -/
theorem ents_put {tab : Tab} (h : TabOk tab) {k n : Str} {b v : Int} {c : PyData} : placeD (entsD tab) (.tuple [.str k, .str n, .int b, .int v, c]) = entsD (putD tab [.inr k, .inr n] (.tuple [.int b, .int v, c])) := by
  refine asc_ext (asc_place (ents_asc h)) (ents_asc (tab_put h)) fun r => ?_
  rw [mem_place (ents_row h) ⟨k, n, _, rfl⟩, mem_ents (tab_put h)]
  constructor
  · rintro (rfl | ⟨h1, h2⟩)
    · exact ⟨[.inr k, .inr n], .tuple [.int b, .int v, c], by rw [lk_put, if_pos rfl], rfl⟩
    · obtain ⟨k', d, e, rfl⟩ := (mem_ents h).mp h1
      have hm := mem_lk e
      have hk := (row_key (h.k _ hm) (h.v _ hm)).2
      refine ⟨k', d, ?_, rfl⟩
      rw [lk_put, if_neg (fun z => h2 (by rw [hk]; exact z))]
      exact e
  · rintro ⟨k', d, e, rfl⟩
    rw [lk_put] at e
    split at e
    · next hk => cases e; subst hk; exact .inl rfl
    · next hk =>
      have hm := mem_lk e
      have hk2 := (row_key (h.k _ hm) (h.v _ hm)).2
      exact .inr ⟨(mem_ents h).mpr ⟨k', d, e, rfl⟩, fun z => hk (by rw [hk2] at z; exact z)⟩
/-- a row taken away -/
theorem ents_drop {tab : Tab} (h : TabOk tab) {k : List Key} : (entsD tab).filter (fun r => decide (kR r ≠ k)) = entsD (dropD tab k) := by
  refine asc_ext ((ents_asc h).filter _) (ents_asc (tab_drop h)) fun r => ?_
  rw [List.mem_filter, mem_ents h, mem_ents (tab_drop h)]
  constructor
  · rintro ⟨⟨k', d, e, rfl⟩, h2⟩
    have hm := mem_lk e
    have hk := (row_key (h.k _ hm) (h.v _ hm)).2
    have h2 := of_decide_eq_true h2
    refine ⟨k', d, ?_, rfl⟩
    rw [lk_drop, if_neg (fun z => h2 (by rw [hk]; exact z))]
    exact e
  · rintro ⟨k', d, e, rfl⟩
    rw [lk_drop] at e
    split at e
    · cases e
    · next hk =>
      have hm := mem_lk e
      have hk2 := (row_key (h.k _ hm) (h.v _ hm)).2
      exact ⟨⟨k', d, e, rfl⟩, decide_eq_true (by rw [hk2]; exact hk)⟩
/-- finding a row -/
def findR (es : List PyData) (k : List Key) : Option PyData := es.find? fun r => decide (kR r = k)
theorem find_ents {tab : Tab} (h : TabOk tab) {k : List Key} : findR (entsD tab) k = (lkD tab k).map fun d => entRow (k, d) := by
  unfold findR
  cases e : lkD tab k with
  | none =>
    rw [Option.map_none, List.find?_eq_none]
    intro r hr hd
    obtain ⟨k', d, e', rfl⟩ := (mem_ents h).mp hr
    have hm := mem_lk e'
    have hk := (row_key (h.k _ hm) (h.v _ hm)).2
    have : k' = k := by have z := of_decide_eq_true hd; rw [hk] at z; exact z
    subst this
    rw [e] at e'; cases e'
  | some d =>
    have hm := mem_lk e
    have hk := (row_key (h.k _ hm) (h.v _ hm)).2
    have hin : entRow (k, d) ∈ entsD tab := (mem_ents h).mpr ⟨k, d, e, rfl⟩
    cases hf : (entsD tab).find? fun r => decide (kR r = k) with
    | none =>
      have := List.find?_eq_none.mp hf _ hin
      exact absurd (decide_eq_true hk) this
    | some r =>
      obtain ⟨k', d', e', rfl⟩ := (mem_ents h).mp (List.mem_of_find?_eq_some hf)
      have h2 := List.find?_some hf
      have hm' := mem_lk e'
      have hk' := (row_key (h.k _ hm') (h.v _ hm')).2
      have : k' = k := by have z := of_decide_eq_true h2; rw [hk'] at z; exact z
      subst this
      rw [e] at e'
      cases e'
      rfl
/-- puts and deletes, sorted -/
theorem sortD_asc {ps : List PyData} (hp : ∀ p ∈ ps, isRow p) (hn : (ps.map kR).Nodup) : Asc (sortD ps) := by
  have h := asc_sort (k := key2) (f := fun p => p) (zs := ps) (fun z hz => ?_) hn hp
  · rw [List.map_id'] at h; exact h
  · obtain ⟨a, b, t, rfl⟩ := hp z hz
    rfl
theorem mem_sortD {ps : List PyData} {r : PyData} : r ∈ sortD ps ↔ r ∈ ps := List.mem_mergeSort
theorem place_all : ∀ {ps done : List PyData}, Asc done → (∀ p ∈ ps, isRow p) → (∀ p ∈ done, isRow p) → ((done ++ ps).map kR).Nodup → Asc (ps.foldl placeD done) ∧ ∀ r, r ∈ ps.foldl placeD done ↔ r ∈ done ∨ r ∈ ps
  | [], done, h, _, _, _ => ⟨h, fun r => by simp⟩
  | p :: ps, done, h, hp, hd, hn => by
    rw [List.foldl_cons]
    have hpp := hp p List.mem_cons_self
    have hmem : ∀ r, r ∈ placeD done p ↔ r = p ∨ r ∈ done := fun r => by
      rw [mem_place hd hpp]
      constructor
      · rintro (h | h)
        · exact .inl h
        · exact .inr h.1
      · rintro (h | h)
        · exact .inl h
        · refine .inr ⟨h, fun z => ?_⟩
          rw [List.map_append, List.nodup_append] at hn
          exact hn.2.2 (kR r) (List.mem_map_of_mem h) (kR p) (List.mem_map_of_mem List.mem_cons_self) z
    have hn2 : ((placeD done p ++ ps).map kR).Nodup := by
      rw [List.map_append, List.nodup_append] at hn ⊢
      rw [List.map_cons, List.nodup_cons] at hn
      refine ⟨?_, hn.2.1.2, fun a ha b hb e => ?_⟩
      · have := (asc_place h : Asc (placeD done p))
        unfold Asc at this
        rw [List.Nodup, List.pairwise_map]
        exact this.imp fun {x y} z e => by rw [e, ltK_irr] at z; cases z
      · obtain ⟨r, hr, rfl⟩ := List.mem_map.mp ha
        rcases (hmem r).mp hr with rfl | hr
        · rw [e] at hn; exact hn.2.1.1 hb
        · exact hn.2.2 _ (List.mem_map_of_mem hr) b (List.mem_cons_of_mem _ hb) e
    obtain ⟨g1, g2⟩ := place_all (asc_place h) (fun q hq => hp q (List.mem_cons_of_mem _ hq)) (fun r hr => by
      rcases (hmem r).mp hr with rfl | hr
      · exact hpp
      · exact hd r hr) hn2
    refine ⟨g1, fun r => ?_⟩
    rw [g2 r, hmem r, List.mem_cons]
    constructor
    · rintro ((h | h) | h)
      · exact .inr (.inl h)
      · exact .inl h
      · exact .inr (.inr h)
    · rintro (h | h | h)
      · exact .inl (.inr h)
      · exact .inl (.inl h)
      · exact .inr h
theorem place_sort {ps : List PyData} (hp : ∀ p ∈ ps, isRow p) (hn : (ps.map kR).Nodup) : ps.foldl placeD [] = sortD ps := by
  obtain ⟨g1, g2⟩ := place_all (ps := ps) (done := []) .nil hp (fun _ h => by cases h) (by simpa using hn)
  exact asc_ext g1 (sortD_asc hp hn) fun r => by rw [g2 r, mem_sortD]; simp
/-! the draws of a script: many numbers from 0 to 996 -/
def Drawn (ds : List Int) : Prop := ∀ d ∈ ds, 0 ≤ d ∧ d < 997
theorem drawn_app {ds es : List Int} (h : Drawn ds) (g : Drawn es) : Drawn (ds ++ es) := fun d hd => (List.mem_append.mp hd).elim (h d) (g d)
theorem drawn_one {d : Int} (h : 0 ≤ d) (g : d < 997) : Drawn [d] := fun e he => by rw [List.mem_singleton] at he; subst he; exact ⟨h, g⟩
theorem drawn_take {ds : List Int} (n : Nat) (h : Drawn ds) : Drawn (ds.take n) := fun d hd => h d (List.mem_of_mem_take hd)
def sp_draws (K : PySem.W.Frag) : Sp := fun vs H Q _ => ∃ (a : Addr) (ns : List Int) (many : Nat), vs = [.ref a, .int (many : Int)] ∧ SqL K H a (ns.map V.int) ∧ ns.length ≤ 63 ∧ many ≤ 9000 ∧
  ∀ (p : Addr) (H' : Hp) (ds : List Int), H p = none → Same H H' → H' p = some (.lst (ds.map V.int)) → Drawn ds → ds.length = many → Q (.ref p) H'
section
variable {P : Program} {w : World} {K : PySem.W.Frag} {mg : Str → Option Value} {base : Heap}
theorem ok__law_draws (T : TX K mg w) : FnOk P w K mg base CX0 1 T.a__law_draws T.d__law_draws ["script", "many"] (sp_draws K) := by
  refine T.F__law_draws.ok sc__law_draws (fun vs H Q E h => ?_) (fun cdv A outer s H vs Q E hr h => ?_)
  · obtain ⟨a, ns, many, rfl, _⟩ := h
    rfl
  · obtain ⟨a, ns, many, rfl, hS, hlen, hm, q⟩ := h
    refine ⟨_, (pss_cons (ps_set (i := 2) sc__law_draws.nd rfl (Or.inl rfl) (pe_lst pa_nil))
      (pss_cons (ps_set (i := 3) sc__law_draws.nd rfl (Or.inl rfl) pe_int)
      (pss_cons (ps_for PassesOwn.never rfl (pi_range1 (by rfl) T.n_range (pa_cons (pe_callB call_len_seq (by rfl) T.n_len PySem.boot_len (pa_cons (pv 0) pa_nil)) pa_nil)) (pg_name (i := 4) sc__law_draws.nd rfl (Or.inl rfl))
        (pss_cons (ps_set (i := 5) sc__law_draws.nd rfl (Or.inl rfl) (pe_callB call_abs (by rfl) T.n_abs (by decide +kernel) (pa_cons (pe_callTy call_int1 (by rfl) T.n_int (by decide +kernel) (pa_cons (pe_ix ix_list (pv 0) (pv 4) (fun _ _ => rfl)) pa_nil)) pa_nil)))
        (pss_cons (ps_set (i := 3) sc__law_draws.nd rfl (Or.inl rfl) (pe_op op_mod (pe_callTy call_int1 (by rfl) T.n_int (by decide +kernel) (pa_cons (pe_op op_add (pe_op op_add (pe_op op_mul (pv 3) pe_int) (pe_op op_mod (pv 5) pe_int)) (pv 4)) pa_nil)) pe_int))
        (pss_cons (ps_set (i := 6) sc__law_draws.nd rfl (Or.inl rfl) pe_int)
        (C8.pss_cut (ps_if (pt_cmpR op_ge (pv 5) (pe_op op_pow pe_int pe_int) (nomark _)) (pss_one (ps_set (i := 6) sc__law_draws.nd rfl (Or.inl rfl) (pv 5))) (pss_cons (ps_expr (pe_bm PySem.F.plainAttrs_list PySem.F.slot_list_append PySem.F.type_list_append mt_append (pv 2) (pa_cons (pe_op op_mod (pv 5) pe_int) pa_nil)))
          (pss_one (ps_expr (pe_bm PySem.F.plainAttrs_list PySem.F.slot_list_append PySem.F.type_list_append mt_append (pv 2) (pa_cons (pe_op op_mod (pe_op op_mod (pe_callTy call_int1 (by rfl) T.n_int (by decide +kernel) (pa_cons (pe_op op_add (pe_op op_mul (pv 3) pe_int) pe_int) pa_nil)) pe_int) pe_int) pa_nil))))))
        (pss_one (ps_for PassesOwn.never rfl (pi_range1 (by rfl) T.n_range (pa_cons pe_int pa_nil)) (pg_name (i := 7) sc__law_draws.nd rfl (Or.inl rfl))
          (pss_one (ps_if (pt_cmpR op_gt (pv 6) pe_int (nomark _)) (pss_cons (ps_expr (pe_bm PySem.F.plainAttrs_list PySem.F.slot_list_append PySem.F.type_list_append mt_append (pv 2) (pa_cons (pe_op op_mod (pe_callTy call_int1 (by rfl) T.n_int (by decide +kernel) (pa_cons (pv 6) pa_nil)) pe_int) pa_nil)))
            (pss_one (ps_set (i := 6) sc__law_draws.nd rfl (Or.inl rfl) (pe_op op_fdiv (pv 6) pe_int)))) pss_nil)))))))))
      (pss_cons (ps_for PassesOwn.never rfl (pi_range1 (by rfl) T.n_range (pa_cons (pv 1) pa_nil)) (pg_name (i := 4) sc__law_draws.nd rfl (Or.inl rfl))
        (pss_cons (ps_set (i := 3) sc__law_draws.nd rfl (Or.inl rfl) (pe_op op_mod (pe_callTy call_int1 (by rfl) T.n_int (by decide +kernel) (pa_cons (pe_op op_add (pe_op op_add (pe_op op_mul (pv 3) pe_int) (pv 4)) pe_int) pa_nil)) pe_int))
        (pss_one (ps_expr (pe_bm PySem.F.plainAttrs_list PySem.F.slot_list_append PySem.F.type_list_append mt_append (pv 2) (pa_cons (pe_op op_mod (pe_callTy call_int1 (by rfl) T.n_int (by decide +kernel) (pa_cons (pv 3) pa_nil)) pe_int) pa_nil))))))
      (pss_one (ps_ret (pe_slice sl_list (pv 2) po_none (po_some (pv 1))))))))), ?_⟩
    refine ⟨Nat.zero_le _, fun o ho => ?_⟩
    have s1 := same_upd (o := .lst []) ho
    -- each cell
    refine ⟨_, rfl, a, _, rfl, .inl (s1.seq hS), _, rfl, by rw [List.length_map]; omega, by rw [List.length_map]; omega, for_range (lo := 0) (n := _) (fun i σ H2 => ∃ (ds : List Int) (mx : Int) (x4 x5 x6 x7 : Option V), σ = [some (.ref a), some (.int (many : Int)), some (.ref o), some (.int mx), x4, x5, x6, x7] ∧ Same H H2 ∧ H2 o = some (.lst (ds.map V.int)) ∧ Drawn ds ∧ ds.length ≤ 62 * i)
      ⟨[], 7, none, none, none, none, rfl, s1, upd_same, (fun _ h => by cases h), Nat.le_refl _⟩ ?_ ?_⟩
    · rintro i σ H2 hi ⟨ds, mx, x4, x5, x6, x7, rfl, g1, g2, g3, g4⟩
      rw [List.length_map] at hi
      have hi' : i < ns.length := by omega
      have hg : ns[i]? = some ns[i] := List.getElem?_eq_getElem hi'
      have ha : atI (ns.map V.int) (0 + (i : Int)) = some (.int ns[i]) := by rw [Int.zero_add]; exact at_map hg
      generalize ns[i] = c at ha
      -- cell, mixed
      refine ⟨_, rfl, _, rfl, a, _, _, _, rfl, rfl, g1.seq hS, ha, .inl ⟨_, rfl, _, rfl, ?_⟩⟩
      dsimp only
      have hc : 0 ≤ (if c < 0 then -c else c) := by split <;> omega
      generalize (if c < 0 then -c else c) = cell at hc
      refine ⟨_, rfl, _, _, rfl, rfl, .inr ⟨by decide, by decide⟩, _, rfl, _, _, rfl, rfl, (by show (0 : Int) < _; decide), _, _, rfl, rfl, _, rfl, _, _, rfl, rfl, .inl ⟨_, rfl, _, _, rfl, rfl, (by show (0 : Int) < _; decide), ?_⟩⟩
      dsimp only
      generalize (mx * 48271 + cell % 1000003 + (0 + (i : Int))) % 65537 = mx2
      -- rest = 0; if cell >= 10 ** 18
      refine ⟨fun σ' H' => ∃ (ds' : List Int) (rest : Int) , 0 ≤ rest ∧ σ' = [some (.ref a), some (.int (many : Int)), some (.ref o), some (.int mx2), some (.int (0 + (i : Int))), some (.int cell), some (.int rest), x7] ∧ Same H H' ∧ H' o = some (.lst (ds'.map V.int)) ∧ Drawn ds' ∧ ds'.length ≤ 62 * i + 2, ?_, ?_⟩
      · refine ⟨_, rfl, _, _, rfl, rfl, ⟨by decide, by decide, by decide⟩, _, _, rfl, rfl, _, rfl, ifd (fun hb => ?_) (fun hb => ?_)⟩
        · exact ⟨_, rfl, ds, cell, hc, rfl, g1, g2, g3, by omega⟩
        · refine ⟨_, rfl, .inl ⟨rfl, _, sql g2⟩, _, rfl, _, _, rfl, rfl, (by show (0 : Int) < _; decide), o, _, _, rfl, rfl, g2, szl (by rw [List.length_map]; omega), ?_⟩
          refine ⟨_, rfl, .inl ⟨rfl, _, sql upd_same⟩, _, rfl, _, _, rfl, rfl, .inr ⟨by decide, by decide⟩, _, _, rfl, rfl, .inl ⟨_, rfl, _, _, rfl, rfl, (by show (0 : Int) < _; decide), _, _, rfl, rfl, (by show (0 : Int) < _; decide), o, _, _, rfl, rfl, upd_same, szl (by rw [List.length_append, List.length_map]; simp only [List.length_cons, List.length_nil]; omega), ?_⟩⟩
          refine ⟨ds ++ [cell % 997, (mx2 * 69621 + 5) % 65521 % 997], 0, Int.le_refl _, rfl, same_put (same_put g1 ho) ho, ?_, drawn_app g3 fun d hd => ?_, by rw [List.length_append]; simp only [List.length_cons, List.length_nil]; omega⟩
          · rw [upd_same, List.map_append, List.append_assoc]
            rfl
          · simp only [List.mem_cons, List.not_mem_nil, or_false] at hd
            rcases hd with rfl | rfl
            · exact ⟨Int.emod_nonneg _ (by decide), Int.emod_lt_of_pos _ (by decide)⟩
            · exact ⟨Int.emod_nonneg _ (by decide), Int.emod_lt_of_pos _ (by decide)⟩
      rintro σ' H' ⟨ds', rest, hr0, rfl, k1, k2, k3, k4⟩
      -- sixty times
      refine ⟨60, rfl, by decide, by decide, for_range (lo := 0) (n := 60) (fun j σ H3 => ∃ (es : List Int) (rest : Int) (x7 : Option V), 0 ≤ rest ∧ σ = [some (.ref a), some (.int (many : Int)), some (.ref o), some (.int mx2), some (.int (0 + (i : Int))), some (.int cell), some (.int rest), x7] ∧ Same H H3 ∧ H3 o = some (.lst (es.map V.int)) ∧ Drawn es ∧ es.length ≤ 62 * i + 2 + j)
        ⟨ds', rest, x7, hr0, rfl, k1, k2, k3, k4⟩ ?_ ?_⟩
      · rintro j σ H3 hj ⟨es, rest, x7, h0, rfl, k1, k2, k3, k4⟩
        refine ⟨_, rfl, _, _, rfl, rfl, _, rfl, ifd (fun hb => ?_) (fun hb => ?_)⟩
        · refine ⟨_, rfl, .inl ⟨rfl, _, sql k2⟩, _, rfl, .inl ⟨_, rfl, _, _, rfl, rfl, (by show (0 : Int) < _; decide), o, _, _, rfl, rfl, k2, szl (by rw [List.length_map]; omega), ?_⟩⟩
          refine ⟨_, rfl, _, _, rfl, rfl, ⟨by decide, by decide⟩, ?_⟩
          refine ⟨es ++ [rest % 997], rest / 997, some (.int (0 + (j : Int))), Int.ediv_nonneg h0 (by decide), rfl, same_put k1 ho, ?_, drawn_app k3 (drawn_one (Int.emod_nonneg _ (by decide)) (Int.emod_lt_of_pos _ (by decide))), by rw [List.length_append]; simp only [List.length_cons, List.length_nil]; omega⟩
          rw [upd_same, List.map_append]
          rfl
        · exact ⟨es, rest, some (.int (0 + (j : Int))), h0, rfl, k1, k2, k3, by omega⟩
      · rintro σ H3 ⟨es, rest, x7, h0, rfl, k1, k2, k3, k4⟩
        exact ⟨es, mx2, _, _, _, _, rfl, k1, k2, k3, by omega⟩
    · rintro σ H2 ⟨ds, mx, x4, x5, x6, x7, rfl, g1, g2, g3, g4⟩
      have hl0 : ds.length ≤ 4000 := by
        simp only [List.length_map] at g4
        omega
      refine ⟨_, rfl, (many : Int), rfl, by omega, by omega, for_range (lo := 0) (n := (many : Int).toNat) (fun i σ H3 => ∃ (es : List Int) (mx : Int) (x4 : Option V), σ = [some (.ref a), some (.int (many : Int)), some (.ref o), some (.int mx), x4, x5, x6, x7] ∧ Same H H3 ∧ H3 o = some (.lst (es.map V.int)) ∧ Drawn es ∧ es.length = ds.length + i)
        ⟨ds, mx, x4, rfl, g1, g2, g3, rfl⟩ ?_ ?_⟩
      · rintro i σ H3 hi ⟨es, mx, x4, rfl, k1, k2, k3, k4⟩
        refine ⟨_, rfl, _, _, rfl, rfl, .inr ⟨by decide, by decide⟩, _, rfl, _, _, rfl, rfl, _, _, rfl, rfl, .inl ⟨_, rfl, _, _, rfl, rfl, (by show (0 : Int) < _; decide), ?_⟩⟩
        refine ⟨_, rfl, .inl ⟨rfl, _, sql k2⟩, _, rfl, .inl ⟨_, rfl, _, _, rfl, rfl, (by show (0 : Int) < _; decide), o, _, _, rfl, rfl, k2, szl (by rw [List.length_map]; omega), ?_⟩⟩
        refine ⟨es ++ [(mx * 16807 + (0 + (i : Int)) + 1) % 65537 % 997], (mx * 16807 + (0 + (i : Int)) + 1) % 65537, some (.int (0 + (i : Int))), rfl, same_put k1 ho, ?_, drawn_app k3 (drawn_one (Int.emod_nonneg _ (by decide)) (Int.emod_lt_of_pos _ (by decide))), by rw [List.length_append, k4]; simp only [List.length_cons, List.length_nil]; omega⟩
        rw [upd_same, List.map_append]
        rfl
      · rintro σ H3 ⟨es, mx, x4, rfl, k1, k2, k3, k4⟩
        refine ⟨_, rfl, _, rfl, _, rfl, o, _, rfl, sql k2, fun p hp => ?_⟩
        refine q p _ (es.take many) (k1.free hp) (k1.trans (same_upd hp)) ?_ (drawn_take _ k3) (by rw [List.length_take]; omega)
        rw [upd_same, cut0n, List.map_take]
end
/-! what the laws draw: names, texts, zones -/
abbrev DrL (n : Nat) (x : PyData) : Prop := ∃ ds : List Int, x = .list (ds.map .int) ∧ Drawn ds ∧ n ≤ ds.length ∧ ds.length ≤ 90000
theorem atI_of {α : Type} {xs : List α} {i : Int} (h0 : 0 ≤ i) (h1 : i.toNat < xs.length) : atI xs i = some (xs[i.toNat]'h1) := by
  have h2 : i < (xs.length : Int) := by omega
  unfold atI ixN
  rw [if_pos h0, if_pos h2]
  exact List.getElem?_eq_getElem h1
theorem dr_ix {ds : List Int} (hD : Drawn ds) {i : Int} (h0 : 0 ≤ i) (h1 : i < ds.length) : ∃ d, atI (ds.map PyData.int) i = some (.int d) ∧ 0 ≤ d ∧ d < 997 := by
  have hi : i.toNat < (ds.map PyData.int).length := by rw [List.length_map]; omega
  refine ⟨ds[i.toNat]'(by omega), ?_, hD _ (List.getElem_mem _)⟩
  rw [atI_of h0 hi, List.getElem_map]
theorem dr_getD {ds : List Int} {k : Int} (h0 : 0 ≤ k) (h1 : k.toNat < ds.length) : atI (ds.map PyData.int) k = some (.int (ds.getD k.toNat 0)) := by
  rw [atI_of h0 (by rw [List.length_map]; exact h1), List.getElem_map, List.getD_eq_getElem?_getD, List.getElem?_eq_getElem h1]
  rfl
theorem lit_ix {xs : List PyData} {i : Int} (h0 : 0 ≤ i) (h1 : i < xs.length) : ∃ x, atI xs i = some x ∧ x ∈ xs :=
  ⟨_, atI_of h0 (by omega), List.getElem_mem _⟩
theorem str_ix {z : Str} {i : Int} (h0 : 0 ≤ i) (h1 : i < z.length) : atI z.cps.toList i = some (z.cps.toList.getD i.toNat 0) ∧ z.cps.toList.getD i.toNat 0 ∈ z.cps.toList := by
  have hl := z_len z
  have hi : i.toNat < z.cps.toList.length := by omega
  rw [atI_of h0 hi, List.getD_eq_getElem?_getD, List.getElem?_eq_getElem hi]
  exact ⟨rfl, List.getElem_mem _⟩
section
variable {P : Program} {w : World} {K : PySem.W.Frag} {mg : Str → Option Value} {base : Heap}
theorem ok__law_name (T : TX K mg w) : FnOk P w K mg base CX0 1 T.a__law_name T.d__law_name ["draws"] (spP K (P1 (DrL 5)) (Q1 fun _ y => isNm y = true ∧ ∀ z, y = .str z → z.length ≠ 11)) := by
  refine okP T.F__law_name sc__law_name 3 rfl P1.len fun cdv A outer s H E hr => ⟨_, (pss_cons (ps_if (pt_cmpR op_eq (pe_op op_mod (pe_ix (ixK_list (K := K) rfl) (pv 0) pe_int (fun _ _ => rfl)) pe_int) pe_int (nomark _)) (pss_one (ps_ret (pe_ix (ixK_list (K := K) rfl) (pe_lst (pa_cons pe_str (pa_cons pe_str (pa_cons pe_str (pa_cons pe_str (pa_cons pe_str (pa_cons pe_str pa_nil))))))) (pe_op op_mod (pe_callTy call_intN (by rfl) T.n_int (by decide +kernel) (pa_cons (pe_ix (ixK_list (K := K) rfl) (pv 0) pe_int (fun _ _ => rfl)) pa_nil)) pe_int) (fun _ _ => rfl)))) pss_nil)
      (pss_cons (ps_set (i := 1) sc__law_name.nd rfl (Or.inr rfl) pe_str)
      (pss_cons (ps_set (i := 2) sc__law_name.nd rfl (Or.inl rfl) (pe_op op_add pe_int (pe_op op_mod (pe_callTy call_intN (by rfl) T.n_int (by decide +kernel) (pa_cons (pe_ix (ixK_list (K := K) rfl) (pv 0) pe_int (fun _ _ => rfl)) pa_nil)) pe_int)))
      (C8.pss_cut (ps_if (pt_cmpR op_eq (pe_op op_mod (pe_ix (ixK_list (K := K) rfl) (pv 0) pe_int (fun _ _ => rfl)) pe_int) pe_int (nomark _)) (pss_one (ps_set (i := 2) sc__law_name.nd rfl (Or.inl rfl) pe_int)) pss_nil)
      (pss_one (ps_ret (peK_join (K := K) rfl pe_str (pe_lc (own := [("k", 3)]) (g := gName 3) (tt := tYes) (by rfl) sc__law_name.nd (pi_range1 (by rfl) T.n_range (pa_cons (pv 2) pa_nil)) (blkOk_by (own := [("k", 3)]) (N := ["draws", "letters", "size", "k"]) (sc := defScope s__law_name) (by decide +kernel)) (fun _ _ _ _ _ => pg_name (i := 3) sc__law_name.nd rfl (Or.inl rfl)) (fun _ _ _ _ _ => pts_nil) (fun _ _ _ _ _ => (pe_ix ix_str (pv 1) (pe_op op_mod (pe_callTy call_intN (by rfl) T.n_int (by decide +kernel) (pa_cons (pe_op op_add (pe_ix (ixK_list (K := K) rfl) (pv 0) (pe_op op_mod (pv 3) pe_int) (fun _ _ => rfl)) (pe_op op_mul pe_int (pv 3))) pa_nil)) pe_int) (fun _ _ => rfl))))))))))), fun ds hd => ?_⟩
  obtain ⟨x, rfl, ds, rfl, hD, h5, h9⟩ := hd
  obtain ⟨d0, e0, b0⟩ := dr_ix hD (i := 0) (by omega) (by omega)
  obtain ⟨d1, e1, b1⟩ := dr_ix hD (i := 1) (by omega) (by omega)
  obtain ⟨d2, e2, b2⟩ := dr_ix hD (i := 2) (by omega) (by omega)
  walk_at "pn"
  walk_at "px"
  walk_at "pi"
  · intro h1
    walk_at "px"
    obtain ⟨x, ex, hx⟩ := lit_ix (xs := [.str "a", .str "b", .str "ab", .str "a0", .str "z9", .str "web"]) (i := d1 % 6) (by omega) (by show _ < (6 : Int); omega)
    walk_at "px"
    refine q1d ?_
    simp only [List.mem_cons, List.not_mem_nil, or_false] at hx
    rcases hx with rfl | rfl | rfl | rfl | rfl | rfl <;> exact ⟨by decide +kernel, fun z e => by cases e; decide +kernel⟩
  · intro h1
    walk_at "px"
    refine ws_cut Int (fun n => [.d (.list (ds.map .int)), .d (.str nameChs), .d (.int n), .u]) (fun n => 1 ≤ n ∧ n ≤ 12 ∧ n ≠ 11) ?_ fun n hn => ?_
    · walk_at "px"
      walk_at "pi"
      · intro h2
        walk_at "px"
        exact nxt 12 (by walk_at "wk") rfl (by decide)
      · intro h2
        walk_at "px"
        exact nxt (1 + d1 % 3) (by walk_at "wk") rfl (by omega)
    · walk_at "px"
      refine we_lcM (by walk_at "ww") rfl ?_
      walk_at "px"
      let g : Nat → Nat := fun k => nameChs.cps.toList.getD ((ds.getD (k % 5) 0 + 7 * (k : Int)) % 36).toNat 0
      have hg : ∀ k, g k ∈ nameChs.cps.toList := fun k => (str_ix (z := nameChs) (i := (ds.getD (k % 5) 0 + 7 * (k : Int)) % 36) (by omega) (by show _ < (36 : Int); omega)).2
      refine ⟨fun x => .str ⟨#[g (intOf x).toNat]⟩, by rw [nums_len]; omega, fun x hx => ?_, (List.range n.toNat).map fun j => (⟨#[g j]⟩ : Str), ?_, ?_, ?_⟩
      · obtain ⟨j, hj, rfl⟩ := nums_mem hx
        have e5 : atI (ds.map PyData.int) ((0 + (j : Int)) % 5) = some (.int (ds.getD (j % 5) 0)) := by
          have h := dr_getD (ds := ds) (k := (0 + (j : Int)) % 5) (by omega) (by omega)
          rwa [show ((0 + (j : Int)) % 5).toNat = j % 5 by omega] at h
        walk_at "pn"
        walk_at "px"
        refine opP_ixS (My.sz (by decide)) (str_ix (z := nameChs) (i := (ds.getD (j % 5) 0 + 7 * (0 + (j : Int))) % 36) (by omega) (by show _ < (36 : Int); omega)).1 ?_
        walk_at "px"
        show some _ = some [PyData.str ⟨#[g (0 + (j : Int)).toNat]⟩]
        rw [show (0 + (j : Int)).toNat = j by omega]
        show some [PyData.str ⟨#[nameChs.cps.toList.getD ((ds.getD (j % 5) 0 + 7 * (0 + (j : Int))) % 36).toNat 0]⟩] = _
        rw [Int.zero_add]
      · rw [nums_map, List.map_map]
        refine List.map_congr_left fun j _ => ?_
        show PyData.str ⟨#[g (0 + (j : Int)).toNat]⟩ = _
        rw [show (0 + (j : Int)).toNat = j by omega]
        rfl
      · rw [show ((List.range n.toNat).map fun j => (⟨#[g j]⟩ : Str)) = (((List.range n.toNat).map g).map fun c => (⟨#[c]⟩ : Str)) by rw [List.map_map]; rfl, sgn_sum, List.length_map, List.length_map, List.length_map, List.length_range]
        show n.toNat + n.toNat * 0 ≤ _
        omega
      · rw [show ((List.range n.toNat).map fun j => (⟨#[g j]⟩ : Str)) = (((List.range n.toNat).map g).map fun c => (⟨#[c]⟩ : Str)) by rw [List.map_map]; rfl, show (Str.ofString "") = ("" : Str) from rfl, sgn_join]
        have hl : (⟨((List.range n.toNat).map g).toArray⟩ : Str).length = n.toNat := by show Array.size _ = _; simp
        refine q1d ⟨?_, fun z e => by rw [← PyData.str.inj e, hl]; omega⟩
        show (decide (1 ≤ Str.length _) && decide (Str.length _ ≤ 12) && _) = true
        rw [hl, decide_eq_true (by omega : 1 ≤ n.toNat), decide_eq_true (by omega : n.toNat ≤ 12), Bool.true_and, Bool.true_and, List.all_eq_true]
        intro c hc
        simp only [List.mem_map, List.mem_range] at hc
        obtain ⟨k, _, rfl⟩ := hc
        exact decide_eq_true (hg k)
end
/-! cuts of draws -/
theorem cutD_from {xs : List PyData} (i : Nat) : cutD xs (some (i : Int)) none = xs.drop i := by
  unfold cutD
  rw [sIx_le]
  show ((xs.drop (min i xs.length)).take (xs.length - min i xs.length)) = _
  rw [List.take_of_length_le (by rw [List.length_drop]; omega)]
  by_cases h : i ≤ xs.length
  · rw [Nat.min_eq_left h]
  · rw [Nat.min_eq_right (show xs.length ≤ i by omega), List.drop_length, List.drop_eq_nil_of_le (by omega)]
theorem cutD_mid {xs : List PyData} (i j : Nat) : cutD xs (some (i : Int)) (some (j : Int)) = (xs.drop i).take (j - i) := by
  unfold cutD
  rw [sIx_le, sIx_le]
  by_cases h : i ≤ xs.length
  · rw [Nat.min_eq_left h]
    by_cases h2 : j ≤ xs.length
    · rw [Nat.min_eq_left h2]
    · rw [Nat.min_eq_right (show xs.length ≤ j by omega)]
      rw [List.take_of_length_le (by rw [List.length_drop]; omega), List.take_of_length_le (by rw [List.length_drop]; omega)]
  · rw [Nat.min_eq_right (show xs.length ≤ i by omega), List.drop_length, List.drop_eq_nil_of_le (by omega), List.take_nil, List.take_nil]
theorem drawn_drop {ds : List Int} (n : Nat) (h : Drawn ds) : Drawn (ds.drop n) := fun d hd => h d (List.mem_of_mem_drop hd)
theorem drL_from {ds : List Int} {n : Nat} (i : Nat) (hD : Drawn ds) (h : n + i ≤ ds.length) (h9 : ds.length ≤ 90000) : DrL n (.list (cutD (ds.map PyData.int) (some (i : Int)) none)) :=
  ⟨ds.drop i, by rw [cutD_from, List.map_drop], drawn_drop i hD, by rw [List.length_drop]; omega, by rw [List.length_drop]; omega⟩
theorem drL_mid {ds : List Int} {n : Nat} (i j : Nat) (hD : Drawn ds) (h : n + i ≤ j) (h2 : j ≤ ds.length) (h9 : ds.length ≤ 90000) : DrL n (.list (cutD (ds.map PyData.int) (some (i : Int)) (some (j : Int)))) :=
  ⟨(ds.drop i).take (j - i), by rw [cutD_mid, List.map_take, List.map_drop], drawn_take _ (drawn_drop i hD), by rw [List.length_take, List.length_drop]; omega, by rw [List.length_take, List.length_drop]; omega⟩
def lawChs : Str := " !\"#$&'()*+,-./0123456789:;<=>?@ABCXYZ[\\]^_`abcxyz{|}~"
theorem lawChs_ok : lawChs.length = 54 ∧ lawChs.cps.toList.all plainCh = true := by decide +kernel
section
variable {P : Program} {w : World} {K : PySem.W.Frag} {mg : Str → Option Value} {base : Heap}
theorem ok__law_text (T : TX K mg w) : FnOk P w K mg base CX0 1 T.a__law_text T.d__law_text ["draws"] (spP K (P1 (DrL 5)) (Q1 fun _ y => isTx y = true ∧ ∃ z, y = .str z)) := by
  refine okP T.F__law_text sc__law_text 3 rfl P1.len fun cdv A outer s H E hr => ⟨_, (pss_cons (ps_set (i := 1) sc__law_text.nd rfl (Or.inr rfl) pe_str)
      (pss_cons (ps_set (i := 2) sc__law_text.nd rfl (Or.inl rfl) (pe_op op_mod (pe_callTy call_intN (by rfl) T.n_int (by decide +kernel) (pa_cons (pe_ix (ixK_list (K := K) rfl) (pv 0) pe_int (fun _ _ => rfl)) pa_nil)) pe_int))
      (C8.pss_cut (ps_if (pt_cmpR op_eq (pe_op op_mod (pe_ix (ixK_list (K := K) rfl) (pv 0) pe_int (fun _ _ => rfl)) pe_int) pe_int (nomark _)) (pss_one (ps_set (i := 2) sc__law_text.nd rfl (Or.inl rfl) pe_int)) pss_nil)
      (pss_one (ps_ret (peK_join (K := K) rfl pe_str (pe_lc (own := [("k", 3)]) (g := gName 3) (tt := tYes) (by rfl) sc__law_text.nd (pi_range1 (by rfl) T.n_range (pa_cons (pv 2) pa_nil)) (blkOk_by (own := [("k", 3)]) (N := ["draws", "chars", "size", "k"]) (sc := defScope s__law_text) (by decide +kernel)) (fun _ _ _ _ _ => pg_name (i := 3) sc__law_text.nd rfl (Or.inl rfl)) (fun _ _ _ _ _ => pts_nil) (fun _ _ _ _ _ => (pe_ix ix_str (pv 1) (pe_op op_mod (pe_callTy call_intN (by rfl) T.n_int (by decide +kernel) (pa_cons (pe_op op_add (pe_ix (ixK_list (K := K) rfl) (pv 0) (pe_op op_mod (pv 3) pe_int) (fun _ _ => rfl)) (pe_op op_mul pe_int (pv 3))) pa_nil)) (pe_callB call_lenS (by rfl) T.n_len PySem.boot_len (pa_cons (pv 1) pa_nil))) (fun _ _ => rfl)))))))))), fun ds hd => ?_⟩
  obtain ⟨x, rfl, ds, rfl, hD, h5, h9⟩ := hd
  obtain ⟨d0, e0, b0⟩ := dr_ix hD (i := 0) (by omega) (by omega)
  obtain ⟨d1, e1, b1⟩ := dr_ix hD (i := 1) (by omega) (by omega)
  have hL := lawChs_ok.1
  walk_at "pn"
  walk_at "px"
  refine ws_cut Int (fun n => [.d (.list (ds.map .int)), .d (.str lawChs), .d (.int n), .u]) (fun n => 0 ≤ n ∧ n ≤ 40) ?_ fun n hn => ?_
  · walk_at "px"
    walk_at "pi"
    · intro h2
      walk_at "px"
      exact nxt 40 (by walk_at "wk") rfl (by decide)
    · intro h2
      walk_at "px"
      exact nxt (d0 % 6) (by walk_at "wk") rfl (by omega)
  · walk_at "px"
    refine we_lcM (by walk_at "ww") rfl ?_
    walk_at "px"
    let g : Nat → Nat := fun k => lawChs.cps.toList.getD ((ds.getD (k % 5) 0 + 11 * (k : Int)) % 54).toNat 0
    have hg : ∀ k, g k ∈ lawChs.cps.toList := fun k => (str_ix (z := lawChs) (i := (ds.getD (k % 5) 0 + 11 * (k : Int)) % 54) (by omega) (by rw [hL]; omega)).2
    refine ⟨fun x => .str ⟨#[g (intOf x).toNat]⟩, by rw [nums_len]; omega, fun x hx => ?_, (List.range n.toNat).map fun j => (⟨#[g j]⟩ : Str), ?_, ?_, ?_⟩
    · obtain ⟨j, hj, rfl⟩ := nums_mem hx
      have e5 : atI (ds.map PyData.int) ((0 + (j : Int)) % 5) = some (.int (ds.getD (j % 5) 0)) := by
        have h := dr_getD (ds := ds) (k := (0 + (j : Int)) % 5) (by omega) (by omega)
        rwa [show ((0 + (j : Int)) % 5).toNat = j % 5 by omega] at h
      walk_at "pn"
      walk_at "px"
      rw [hL]
      walk_at "px"
      refine opP_ixS (My.sz (by rw [hL]; decide)) (str_ix (z := lawChs) (i := (ds.getD (j % 5) 0 + 11 * (0 + (j : Int))) % (54 : Nat)) (by omega) (by rw [hL]; omega)).1 ?_
      walk_at "px"
      show some _ = some [PyData.str ⟨#[g (0 + (j : Int)).toNat]⟩]
      rw [show (0 + (j : Int)).toNat = j by omega]
      show some [PyData.str ⟨#[lawChs.cps.toList.getD ((ds.getD (j % 5) 0 + 11 * (0 + (j : Int))) % 54).toNat 0]⟩] = _
      rw [Int.zero_add]
    · rw [nums_map, List.map_map]
      refine List.map_congr_left fun j _ => ?_
      show PyData.str ⟨#[g (0 + (j : Int)).toNat]⟩ = _
      rw [show (0 + (j : Int)).toNat = j by omega]
      rfl
    · rw [show ((List.range n.toNat).map fun j => (⟨#[g j]⟩ : Str)) = (((List.range n.toNat).map g).map fun c => (⟨#[c]⟩ : Str)) by rw [List.map_map]; rfl, sgn_sum, List.length_map, List.length_map, List.length_map, List.length_range]
      show n.toNat + n.toNat * 0 ≤ _
      omega
    · rw [show ((List.range n.toNat).map fun j => (⟨#[g j]⟩ : Str)) = (((List.range n.toNat).map g).map fun c => (⟨#[c]⟩ : Str)) by rw [List.map_map]; rfl, show (Str.ofString "") = ("" : Str) from rfl, sgn_join]
      refine q1d ⟨?_, _, rfl⟩
      have hl : (⟨((List.range n.toNat).map g).toArray⟩ : Str).length = n.toNat := by show Array.size _ = _; simp
      show (decide (Str.length _ ≤ 40) && _) = true
      rw [hl, decide_eq_true (by omega : n.toNat ≤ 40), Bool.true_and, List.all_eq_true]
      intro c hc
      simp only [List.mem_map, List.mem_range] at hc
      obtain ⟨k, _, rfl⟩ := hc
      exact List.all_eq_true.mp lawChs_ok.2 _ (hg k)
theorem ok__law_zone (T : TX K mg w) : FnOk P w K mg base CX0 2 T.a__law_zone T.d__law_zone ["draws"] (spP K (P1 (DrL 6)) (Q1 fun _ y => isZo y = true ∧ ∃ z, y = .str z ∧ z.length ≤ 12)) := by
  refine okP T.F__law_zone sc__law_zone 0 rfl P1.len fun cdv A outer s H E hr => ⟨_, (pss_cons (ps_if (pt_cmpR op_eq (pe_op op_mod (pe_ix (ixK_list (K := K) rfl) (pv 0) pe_int (fun _ _ => rfl)) pe_int) pe_int (nomark _)) (pss_one (ps_ret pe_str)) pss_nil)
      (pss_one (ps_ret (pe_call (ok__law_name T) (hr.mono (by decide)) (by rfl) T.g__law_name T.F__law_name.kp T.b__law_name .nil pass0 (pa_cons (pe_slice (slKx_list (K := K) rfl) (pv 0) (po_some pe_int) po_none) pa_nil))))), fun ds hd => ?_⟩
  obtain ⟨x, rfl, ds, rfl, hD, h5, h9⟩ := hd
  obtain ⟨d0, e0, b0⟩ := dr_ix hD (i := 0) (by omega) (by omega)
  walk_at "pn"
  walk_at "px"
  walk_at "pi"
  · intro h1
    walk_at "px"
    exact q1d ⟨by decide +kernel, _, rfl, by decide +kernel⟩
  · intro h1
    walk_at "px"
    refine ⟨drL_from 1 hD (by omega) h9, fun y ⟨hy, _⟩ => q1d ⟨?_, ?_⟩⟩
    · unfold isZo
      rw [hy, Bool.or_true]
    · cases y with
      | str z =>
        refine ⟨z, rfl, ?_⟩
        have : (decide (1 ≤ z.length) && decide (z.length ≤ 12) && _) = true := hy
        rw [Bool.and_eq_true, Bool.and_eq_true] at this
        exact of_decide_eq_true this.1.2
      | _ => cases hy
end
/-! open numbers, keys, values -/
theorem openFrom_app : ∀ {xs : List PyData} {l k : Int}, openFrom l xs = true → (∀ x ∈ xs, intOf x < k) → l ≤ k → k ≤ 9 → openFrom l (xs ++ [.int k]) = true
  | [], l, k, _, _, h1, h2 => by
    show (intIn (.int k) l 9 && true) = true
    show ((decide (l ≤ k) && decide (k ≤ 9)) && true) = true
    rw [decide_eq_true h1, decide_eq_true h2]; rfl
  | x :: xs, l, k, h, hx, h1, h2 => by
    have h' : (intIn x l 9 && openFrom (intOf x + 1) xs) = true := h
    rw [Bool.and_eq_true] at h'
    show (intIn x l 9 && openFrom (intOf x + 1) (xs ++ [.int k])) = true
    have := hx x List.mem_cons_self
    rw [h'.1, openFrom_app h'.2 (fun y hy => hx y (List.mem_cons_of_mem _ hy)) (by omega) h2]; rfl
theorem digit_ok {d : Int} (h0 : 0 ≤ d) (h1 : d < 10) : ∃ c, (toString d : Str) = ⟨#[c]⟩ ∧ c ∈ digChs.cps.toList := by
  have z : ∀ j : Nat, j < 10 → ((toString (j : Int) : Str).cps.size = 1 ∧ (toString (j : Int) : Str).cps.toList.getD 0 0 ∈ digChs.cps.toList) := by decide +kernel
  obtain ⟨e1, e2⟩ := z d.toNat (by omega)
  rw [Int.toNat_of_nonneg h0] at e1 e2
  refine ⟨_, ?_, e2⟩
  generalize (toString d : Str) = w at e1 ⊢
  obtain ⟨⟨l⟩⟩ := w
  match l, e1 with
  | [c], _ => rfl
theorem isSl_make {z : Str} {c : Nat} (h : isNm (.str z) = true) (hc : c ∈ digChs.cps.toList) : isSl (.str (z ++ "/" ++ ⟨#[c]⟩)) = true := by
  have h' : (decide (1 ≤ z.length) && decide (z.length ≤ 12) && z.cps.toList.all fun c => decide (c ∈ nameChs.cps.toList)) = true := h
  rw [Bool.and_eq_true, Bool.and_eq_true] at h'
  have h1 := of_decide_eq_true h'.1.1
  have hz := z_len z
  have el : (z ++ "/" ++ ⟨#[c]⟩ : Str).cps.toList = z.cps.toList ++ [47, c] := by
    show (z.cps ++ ("/" : Str).cps ++ #[c]).toList = _
    have : ("/" : Str).cps = #[47] := by decide +kernel
    rw [this]; simp
  have en : (z ++ "/" ++ ⟨#[c]⟩ : Str).length = z.length + 2 := by rw [← z_len, el, List.length_append, hz]; rfl
  have ec : cutS (z ++ "/" ++ ⟨#[c]⟩ : Str) none (some (-2)) = z := by
    unfold cutS
    rw [en, el]
    show (⟨((List.take ((-2 + ((z.length + 2 : Nat) : Int)).toNat - 0) ((z.cps.toList ++ [47, c]).drop 0))).toArray⟩ : Str) = z
    rw [show (-2 + ((z.length + 2 : Nat) : Int)).toNat - 0 = z.length by omega, List.drop_zero, List.take_append_of_le_length (by omega), List.take_of_length_le (by omega)]
  show (decide (3 ≤ Str.length _) && _) = true
  rw [en, decide_eq_true (by omega : 3 ≤ z.length + 2), Bool.true_and, ec, h, Bool.and_true, el]
  have e1 : (z.cps.toList ++ [47, c]).getD (z.length + 2 - 1) 0 = c := by
    rw [List.getD_eq_getElem?_getD, List.getElem?_append_right (by omega), hz, show z.length + 2 - 1 - z.length = 1 by omega]; rfl
  have e2 : (z.cps.toList ++ [47, c]).getD (z.length + 2 - 2) 0 = 47 := by
    rw [List.getD_eq_getElem?_getD, List.getElem?_append_right (by omega), hz, show z.length + 2 - 2 - z.length = 0 by omega]; rfl
  rw [e1, e2, decide_eq_true hc]
  rfl
section
variable {P : Program} {w : World} {K : PySem.W.Frag} {mg : Str → Option Value} {base : Heap}
theorem ok__law_open (T : TX K mg w) : FnOk P w K mg base CX0 1 T.a__law_open T.d__law_open ["draw"] (spP K (P1 fun x => ∃ i, x = .int i) (Q1 fun _ y => isOpN y = true)) := by
  refine okP T.F__law_open sc__law_open 3 rfl P1.len fun cdv A outer s H E hr => ⟨_, (pss_cons (ps_set (i := 1) sc__law_open.nd rfl (Or.inl rfl) (pe_tup pa_nil))
      (pss_cons (ps_set (i := 2) sc__law_open.nd rfl (Or.inl rfl) (pe_callTy call_intN (by rfl) T.n_int (by decide +kernel) (pa_cons (pv 0) pa_nil)))
      (pss_cons (ps_for PassesOwn.never rfl (pi_range1 (by rfl) T.n_range (pa_cons pe_int pa_nil)) (pg_name (i := 3) sc__law_open.nd rfl (Or.inl rfl))
        (pss_cons (ps_if (pt_cmpR op_eq (pe_op op_mod (pv 2) pe_int) pe_int (nomark _)) (pss_one (ps_set (i := 1) sc__law_open.nd rfl (Or.inl rfl) (pe_op (opK_catA (K := K) rfl) (pv 1) (pe_tup (pa_cons (pv 3) pa_nil))))) pss_nil)
        (pss_one (ps_set (i := 2) sc__law_open.nd rfl (Or.inl rfl) (pe_op op_fdiv (pv 2) pe_int)))))
      (pss_one (ps_ret (pv 1)))))), fun ds hd => ?_⟩
  obtain ⟨x, rfl, i, rfl⟩ := hd
  walk_at "pn"
  walk_at "px"
  refine ws_for ?_
  walk_at "px"
  refine ⟨List PyData × Int, fun s => [.d (.int i), .d (.tuple s.1), .d (.int s.2), .u], fun _ => (), fun j s => openFrom 0 s.1 = true ∧ s.1.length ≤ j ∧ ∀ x ∈ s.1, intOf x < j, nxt ([], i) (by walk_at "wk") rfl ⟨rfl, Nat.le_refl _, fun _ h => by cases h⟩, fun j x s hx hI => ?_, fun s hI => ?_⟩
  · obtain ⟨hj, rfl⟩ := nums_at hx
    obtain ⟨xs, r⟩ := s
    obtain ⟨i1, i2, i3⟩ := hI
    have hj' : j < 10 := hj
    have i2' : xs.length ≤ j := i2
    walk_at "px"
    walk_at "pi"
    · intro h1
      walk_at "px"
      try (refine opP_catT (by show xs.length + 1 ≤ _; omega) ?_)
      walk_at "px"
      refine nxt (xs ++ [.int (0 + (j : Int))], r / 2) (by walk_at "wk") rfl ⟨openFrom_app i1 (fun x hx => by have := i3 x hx; omega) (by omega) (by omega), by rw [List.length_append]; show xs.length + 1 ≤ _; omega, fun x hx => ?_⟩
      rcases List.mem_append.mp hx with h | h
      · have := i3 x h; omega
      · rw [List.mem_singleton.mp h]; show (0 + (j : Int)) < _; omega
    · intro h1
      walk_at "px"
      exact nxt (xs, r / 2) (by walk_at "wk") rfl ⟨i1, by show xs.length ≤ _; omega, fun x hx => by have := i3 x hx; omega⟩
  · walk_at "px"
    exact q1d hI.1
theorem ok__law_key (T : TX K mg w) : FnOk P w K mg base CX0 2 T.a__law_key T.d__law_key ["draws"] (spP K (P1 (DrL 7)) (Q1 fun _ y => ∃ k n, y = .tuple [.str k, .str n] ∧ isKy (.str k) (.str n) = true ∧ n.length ≠ 13)) := by
  refine okP T.F__law_key sc__law_key 2 rfl P1.len fun cdv A outer s H E hr => ⟨_, (pss_cons (ps_set (i := 1) sc__law_key.nd rfl (Or.inl rfl) (pe_ix (ixK_list (K := K) rfl) (pe_lst (pa_cons pe_str (pa_cons pe_str (pa_cons pe_str (pa_cons pe_str (pa_cons pe_str (pa_cons pe_str (pa_cons pe_str pa_nil)))))))) (pe_op op_mod (pe_callTy call_intN (by rfl) T.n_int (by decide +kernel) (pa_cons (pe_ix (ixK_list (K := K) rfl) (pv 0) pe_int (fun _ _ => rfl)) pa_nil)) pe_int) (fun _ _ => rfl)))
      (pss_cons (ps_set (i := 2) sc__law_key.nd rfl (Or.inl rfl) (pe_call (ok__law_name T) (hr.mono (by decide)) (by rfl) T.g__law_name T.F__law_name.kp T.b__law_name .nil pass0 (pa_cons (pe_slice (slKx_list (K := K) rfl) (pv 0) (po_some pe_int) po_none) pa_nil)))
      (pss_cons (ps_if (pt_cmpR op_eq (pv 1) pe_str (nomark _)) (pss_one (ps_set (i := 2) sc__law_key.nd rfl (Or.inl rfl) (pe_op op_addS (pe_op op_addS (pv 2) pe_str) (pe_callTy call_strN (by rfl) T.n_str (by decide +kernel) (pa_cons (pe_op op_mod (pe_callTy call_intN (by rfl) T.n_int (by decide +kernel) (pa_cons (pe_ix (ixK_list (K := K) rfl) (pv 0) pe_int (fun _ _ => rfl)) pa_nil)) pe_int) pa_nil))))) pss_nil)
      (pss_one (ps_ret (pe_tup (pa_cons (pv 1) (pa_cons (pv 2) pa_nil)))))))), fun ds hd => ?_⟩
  obtain ⟨x, rfl, ds, rfl, hD, h5, h9⟩ := hd
  obtain ⟨d0, e0, b0⟩ := dr_ix hD (i := 0) (by omega) (by omega)
  obtain ⟨d6, e6, b6⟩ := dr_ix hD (i := 6) (by omega) (by omega)
  obtain ⟨kd, ek, hk⟩ := lit_ix (xs := kindsD) (i := d0 % 7) (by omega) (by show _ < (7 : Int); omega)
  have ek' : atI [PyData.str "beat", .str "drain", .str "node", .str "note", .str "rollout", .str "service", .str "task"] (d0 % 7) = some kd := ek
  obtain ⟨z, hz, rfl⟩ : ∃ z ∈ kindNames, kd = .str z := by
    simp only [kindsD, List.mem_cons, List.not_mem_nil, or_false] at hk
    rcases hk with rfl | rfl | rfl | rfl | rfl | rfl | rfl <;> exact ⟨_, by decide, rfl⟩
  walk_at "pn"
  walk_at "px"
  refine ⟨drL_from 1 hD (by omega) h9, fun y ⟨hy, h11⟩ => ?_⟩
  obtain ⟨n, rfl⟩ : ∃ n, y = .str n := by cases y with | str n => exact ⟨n, rfl⟩ | _ => cases hy
  have hn : n.length ≤ 12 := by
    have : (decide (1 ≤ n.length) && decide (n.length ≤ 12) && _) = true := hy
    rw [Bool.and_eq_true, Bool.and_eq_true] at this
    exact of_decide_eq_true this.1.2
  walk_at "px"
  walk_at "pi"
  · intro h1
    walk_at "px"
    obtain ⟨c, ec, hc⟩ := digit_ok (d := d6 % 10) (by omega) (by omega)
    refine opP_addS (My.sz (by show n.length + 1 ≤ _; omega)) ?_
    walk_at "px"
    refine cbP_strI (log_small (by omega)) ?_
    walk_at "px"
    rw [show (PyData.str (toString (d6 % 10))) = .str ⟨#[c]⟩ from congrArg PyData.str ec]
    refine opP_addS (My.sz (by show (n ++ "/" : Str).length + 1 ≤ _; have : (n ++ "/" : Str).length = n.length + 1 := by { show (n.cps ++ ("/" : Str).cps).size = _; rw [Array.size_append]; rfl }; omega)) ?_
    walk_at "px"
    refine q1d ⟨z, _, rfl, ?_, ?_⟩
    rotate_left
    · have e2 : (n ++ "/" ++ ⟨#[c]⟩ : Str).length = n.length + 2 := by
        show (n.cps ++ ("/" : Str).cps ++ #[c]).size = _
        rw [Array.size_append, Array.size_append]
        rfl
      have := h11 n rfl
      show (n ++ "/" ++ ⟨#[c]⟩ : Str).length ≠ 13
      omega
    unfold isKy
    rw [if_pos (by rw [h1]; rfl)]
    exact isSl_make hy hc
  · intro h1
    walk_at "px"
    refine q1d ⟨z, n, rfl, ?_, by omega⟩
    unfold isKy
    have : (PyData.str z).eqv (.str "task") = false := by unfold PyData.eqv; rw [beq_eq_false_iff_ne]; exact h1
    rw [if_neg (by rw [this]; exact Bool.false_ne_true), hy, Bool.and_true, List.any_eq_true]
    exact ⟨.str z, hk, by unfold PyData.eqv; rw [beq_self_eq_true]⟩
theorem worth_at {kd : Str} (hk : kd ∈ kindNames) (h1 : kd ≠ "beat") (h2 : kd ≠ "drain") (h3 : kd ≠ "node") (h4 : kd ≠ "note") (h5 : kd ≠ "rollout") (h6 : kd ≠ "service") : formOf kd = fTask := by
  unfold formOf
  rw [if_neg h1, if_neg h2, if_neg h3, if_neg h4, if_neg h5, if_neg h6]
theorem ct_draw {d : Int} (h : 0 ≤ d ∧ d < 997) : isCt (.int d) = true := by
  show (decide (0 ≤ d) && decide (d ≤ 1000000000000)) = true
  rw [decide_eq_true h.1, decide_eq_true (by omega)]; rfl
theorem in_dec {d lo hi : Int} (h : lo ≤ d ∧ d ≤ hi) : intIn (.int d) lo hi = true := by
  show (decide (lo ≤ d) && decide (d ≤ hi)) = true
  rw [decide_eq_true h.1, decide_eq_true h.2]; rfl
theorem ok__law_worth (T : TX K mg w) : FnOk P w K mg base CX0 3 T.a__law_worth T.d__law_worth ["kind", "draws"] (spP K (P2 fun k d => (∃ z ∈ kindNames, k = .str z) ∧ DrL 12 d) (Q2 fun k _ y => ∀ z, k = .str z → formOf z y = true ∧ ∃ xs, y = .tuple xs)) := by
  refine okP T.F__law_worth sc__law_worth 2 rfl P2.len fun cdv A outer s H E hr => ⟨_, (pss_cons (ps_set (i := 2) sc__law_worth.nd rfl (Or.inl rfl) (pe_call (ok__law_text T) (hr.mono (by decide)) (by rfl) T.g__law_text T.F__law_text.kp T.b__law_text .nil pass0 (pa_cons (pe_slice (slKx_list (K := K) rfl) (pv 1) (po_some pe_int) po_none) pa_nil)))
      (pss_cons (ps_if (pt_cmpR op_eq (pv 0) pe_str (nomark _)) (pss_one (ps_ret (pe_tup (pa_cons (pe_ix (ixK_list (K := K) rfl) (pv 1) pe_int (fun _ _ => rfl)) (pa_cons (pe_ix (ixK_list (K := K) rfl) (pv 1) pe_int (fun _ _ => rfl)) pa_nil))))) pss_nil)
      (pss_cons (ps_if (pt_cmpR op_eq (pv 0) pe_str (nomark _)) (pss_one (ps_ret (pe_tup (pa_cons (pv 2) pa_nil)))) pss_nil)
      (pss_cons (ps_if (pt_cmpR op_eq (pv 0) pe_str (nomark _)) (pss_one (ps_ret (pe_tup (pa_cons (pe_ix (ixK_list (K := K) rfl) (pv 1) pe_int (fun _ _ => rfl)) (pa_cons (pe_ix (ixK_list (K := K) rfl) (pv 1) pe_int (fun _ _ => rfl)) (pa_cons (pe_ix (ixK_list (K := K) rfl) (pv 1) pe_int (fun _ _ => rfl)) (pa_cons (pe_op op_mod (pe_ix (ixK_list (K := K) rfl) (pv 1) pe_int (fun _ _ => rfl)) pe_int) (pa_cons (pe_call (ok__law_zone T) (hr.mono (by decide)) (by rfl) T.g__law_zone T.F__law_zone.kp T.b__law_zone .nil pass0 (pa_cons (pe_slice (slKx_list (K := K) rfl) (pv 1) (po_some pe_int) po_none) pa_nil)) pa_nil)))))))) pss_nil)
      (pss_cons (ps_if (pt_cmpR op_eq (pv 0) pe_str (nomark _)) (pss_cons (ps_if (pt_cmpR op_eq (pe_op op_mod (pe_ix (ixK_list (K := K) rfl) (pv 1) pe_int (fun _ _ => rfl)) pe_int) pe_int (nomark _)) (pss_one (ps_ret (pe_tup (pa_cons (pv 2) (pa_cons pe_str (pa_cons pe_str (pa_cons (pe_ix (ixK_list (K := K) rfl) (pv 1) pe_int (fun _ _ => rfl)) pa_nil))))))) pss_nil)
        (pss_one (ps_ret (pe_op (opK_catA (K := K) rfl) (pe_op (opK_catA (K := K) rfl) (pe_tup (pa_cons (pv 2) pa_nil)) (pe_call (ok__law_key T) (hr.mono (by decide)) (by rfl) T.g__law_key T.F__law_key.kp T.b__law_key .nil pass0 (pa_cons (pe_slice (slKx_list (K := K) rfl) (pv 1) (po_some pe_int) po_none) pa_nil))) (pe_tup (pa_cons (pe_ix (ixK_list (K := K) rfl) (pv 1) pe_int (fun _ _ => rfl)) pa_nil)))))) pss_nil)
      (pss_cons (ps_if (pt_cmpR op_eq (pv 0) pe_str (nomark _)) (pss_one (ps_ret (pe_tup (pa_cons (pe_ix (ixK_list (K := K) rfl) (pv 1) pe_int (fun _ _ => rfl)) (pa_cons (pe_call (ok__law_open T) (hr.mono (by decide)) (by rfl) T.g__law_open T.F__law_open.kp T.b__law_open .nil pass0 (pa_cons (pe_op op_add (pe_ix (ixK_list (K := K) rfl) (pv 1) pe_int (fun _ _ => rfl)) (pe_ix (ixK_list (K := K) rfl) (pv 1) pe_int (fun _ _ => rfl))) pa_nil)) pa_nil))))) pss_nil)
      (pss_cons (ps_if (pt_cmpR op_eq (pv 0) pe_str (nomark _)) (pss_one (ps_ret (pe_tup (pa_cons (pe_op op_mod (pe_ix (ixK_list (K := K) rfl) (pv 1) pe_int (fun _ _ => rfl)) pe_int) (pa_cons (pv 2) (pa_cons (pe_ix (ixK_list (K := K) rfl) (pv 1) pe_int (fun _ _ => rfl)) (pa_cons (pe_op op_add pe_int (pe_op op_mod (pe_ix (ixK_list (K := K) rfl) (pv 1) pe_int (fun _ _ => rfl)) pe_int)) (pa_cons (pe_call (ok__law_zone T) (hr.mono (by decide)) (by rfl) T.g__law_zone T.F__law_zone.kp T.b__law_zone .nil pass0 (pa_cons (pe_slice (slKx_list (K := K) rfl) (pv 1) (po_some pe_int) po_none) pa_nil)) pa_nil)))))))) pss_nil)
      (pss_cons (ps_set (i := 3) sc__law_worth.nd rfl (Or.inl rfl) (pe_ix (ixK_list (K := K) rfl) (pe_lst (pa_cons pe_str (pa_cons pe_str (pa_cons pe_str (pa_cons pe_str pa_nil))))) (pe_op op_mod (pe_callTy call_intN (by rfl) T.n_int (by decide +kernel) (pa_cons (pe_ix (ixK_list (K := K) rfl) (pv 1) pe_int (fun _ _ => rfl)) pa_nil)) pe_int) (fun _ _ => rfl)))
      (pss_one (ps_ret (pe_tup (pa_cons (pe_ix (ixK_list (K := K) rfl) (pv 1) pe_int (fun _ _ => rfl)) (pa_cons (pv 2) (pa_cons (pe_ix (ixK_list (K := K) rfl) (pv 1) pe_int (fun _ _ => rfl)) (pa_cons (pv 3) (pa_cons (pe_op op_mod (pe_ix (ixK_list (K := K) rfl) (pv 1) pe_int (fun _ _ => rfl)) pe_int) (pa_cons (pe_call (ok__law_zone T) (hr.mono (by decide)) (by rfl) T.g__law_zone T.F__law_zone.kp T.b__law_zone .nil pass0 (pa_cons (pe_slice (slKx_list (K := K) rfl) (pv 1) (po_some pe_int) po_none) pa_nil)) (pa_cons (pe_ix (ixK_list (K := K) rfl) (pv 1) pe_int (fun _ _ => rfl)) (pa_cons (pe_call (ok__law_zone T) (hr.mono (by decide)) (by rfl) T.g__law_zone T.F__law_zone.kp T.b__law_zone .nil pass0 (pa_cons (pe_slice (slKx_list (K := K) rfl) (pv 1) (po_some pe_int) po_none) pa_nil)) pa_nil))))))))))))))))))), fun ds hd => ?_⟩
  obtain ⟨k, x, rfl, ⟨kd, hk, rfl⟩, ds, rfl, hD, h5, h9⟩ := hd
  obtain ⟨d0, e0, b0⟩ := dr_ix hD (i := 0) (by omega) (by omega)
  obtain ⟨d1, e1, b1⟩ := dr_ix hD (i := 1) (by omega) (by omega)
  obtain ⟨d2, e2, b2⟩ := dr_ix hD (i := 2) (by omega) (by omega)
  obtain ⟨d3, e3, b3⟩ := dr_ix hD (i := 3) (by omega) (by omega)
  obtain ⟨d4, e4, b4⟩ := dr_ix hD (i := 4) (by omega) (by omega)
  have fin : ∀ {v : PyData}, formOf kd v = true → (∃ xs, v = .tuple xs) → Q2 (fun k _ y => ∀ z, k = .str z → formOf z y = true ∧ ∃ xs, y = .tuple xs) [.str kd, .list (ds.map .int)] (.d v) ∧ isDo (.d v) := fun h h2 => q2d fun z e => by cases e; exact ⟨h, h2⟩
  walk_at "pn"
  walk_at "px"
  refine ⟨drL_from 3 hD (by omega) h9, fun t ⟨ht, tz, etz⟩ => ?_⟩
  subst etz
  walk_at "px"
  walk_at "pi"
  · intro h
    walk_at "px"
    subst h
    refine fin ?_ ⟨_, rfl⟩
    show (isCt (.int d0) && isCt (.int d1)) = true
    rw [ct_draw b0, ct_draw b1]; rfl
  intro n1
  walk_at "px"
  walk_at "pi"
  · intro h
    walk_at "px"
    subst h
    exact fin ht ⟨_, rfl⟩
  intro n2
  walk_at "px"
  walk_at "pi"
  · intro h
    walk_at "px"
    refine ⟨drL_from 4 hD (by omega) h9, fun z ⟨hz, _⟩ => ?_⟩
    walk_at "px"
    subst h
    refine fin ?_ ⟨_, rfl⟩
    show (isCt (.int d0) && (isCt (.int d1) && (isCt (.int d2) && (intIn (.int (d3 % 2)) 0 1 && isZo z)))) = true
    rw [ct_draw b0, ct_draw b1, ct_draw b2, in_dec (by omega), hz]; rfl
  intro n3
  walk_at "px"
  walk_at "pi"
  · intro h
    walk_at "px"
    subst h
    walk_at "pi"
    · intro h
      walk_at "px"
      refine fin ?_ ⟨_, rfl⟩
      show (isTx (.str tz) && (isCt (.int d1) && _)) = true
      rw [ht, ct_draw b1]; rfl
    · intro h
      walk_at "px"
      refine ⟨drL_from 1 hD (by omega) h9, fun y ⟨k, n, e, hy, _⟩ => ?_⟩
      subst e
      walk_at "px"
      try (refine opP_catT (Nat.le_of_ble_eq_true rfl) ?_)
      walk_at "px"
      try (refine opP_catT (Nat.le_of_ble_eq_true rfl) ?_)
      walk_at "px"
      refine fin ?_ ⟨_, rfl⟩
      show (isTx (.str tz) && (isCt (.int d1) && (_ || isKy (.str k) (.str n)))) = true
      rw [ht, ct_draw b1, hy, Bool.or_true]; rfl
  intro n4
  walk_at "px"
  walk_at "pi"
  · intro h
    walk_at "px"
    refine fun y hy => ?_
    walk_at "px"
    subst h
    refine fin ?_ ⟨_, rfl⟩
    show (isCt (.int d0) && isOpN y) = true
    rw [ct_draw b0, hy]; rfl
  intro n5
  walk_at "px"
  walk_at "pi"
  · intro h
    walk_at "px"
    refine ⟨drL_from 4 hD (by omega) h9, fun z ⟨hz, _⟩ => ?_⟩
    walk_at "px"
    subst h
    refine fin ?_ ⟨_, rfl⟩
    show (intIn (.int (d0 % 10)) 0 9 && (intIn (.int (1 + d2 % 9)) 1 9 && (isTx (.str tz) && (isCt (.int d1) && isZo z)))) = true
    rw [in_dec (by omega), in_dec (by omega), ht, ct_draw b1, hz]; rfl
  intro n6
  walk_at "px"
  obtain ⟨st, es, hs⟩ := lit_ix (xs := statesD) (i := d0 % 4) (by omega) (by show _ < (4 : Int); omega)
  have es' : atI [PyData.str "new", .str "bound", .str "running", .str "ended"] (d0 % 4) = some st := es
  walk_at "px"
  refine ⟨drL_from 5 hD (by omega) h9, fun z1 ⟨hz1, _⟩ => ?_⟩
  walk_at "px"
  refine ⟨drL_from 6 hD (by omega) h9, fun z2 ⟨hz2, _⟩ => ?_⟩
  walk_at "px"
  refine fin ?_ ⟨_, rfl⟩
  rw [worth_at hk n1 n2 n3 n4 n5 n6]
  have hst : (statesD.any fun z => z.eqv st) = true := by
    rw [List.any_eq_true]
    refine ⟨st, hs, ?_⟩
    simp only [statesD, List.mem_cons, List.not_mem_nil, or_false] at hs
    rcases hs with rfl | rfl | rfl | rfl <;> (unfold PyData.eqv; rw [beq_self_eq_true])
  show (isCt (.int d1) && (isCt (.int d2) && (isCt (.int d4) && (isTx (.str tz) && (isZo z1 && (isZo z2 && ((statesD.any fun z => z.eqv st) && intIn (.int (d3 % 2)) 0 1))))))) = true
  rw [ct_draw b1, ct_draw b2, ct_draw b4, ht, hz1, hz2, hst, in_dec (by omega)]
  rfl
end
theorem intIn_int {x : PyData} {lo hi : Int} (h : intIn x lo hi = true) : ∃ j, x = .int j ∧ lo ≤ j ∧ j ≤ hi := by
  cases x with
  | int j =>
    have : (decide (lo ≤ j) && decide (j ≤ hi)) = true := h
    rw [Bool.and_eq_true] at this
    exact ⟨j, rfl, of_decide_eq_true this.1, of_decide_eq_true this.2⟩
  | _ => cases h
/-! what has a form is small -/
theorem atI_getD {xs : List PyData} {i : Int} (h0 : 0 ≤ i) (h1 : i.toNat < xs.length) : atI xs i = some (xs.getD i.toNat .none) := by
  rw [atI_of h0 h1, List.getD_eq_getElem?_getD, List.getElem?_eq_getElem h1, Option.getD_some]
theorem low_ok {z : Str} (h : ∀ c ∈ z.cps.toList, c ≤ 126) : PyData.strOk z = true := by
  unfold PyData.strOk
  rw [← Array.all_toList, List.all_eq_true]
  intro c hc
  have h1 := h c hc
  refine decide_eq_true ?_
  omega
theorem low_okx {z : Str} {n : Nat} (h : ∀ c ∈ z.cps.toList, c ≤ 126) (hl : z.length ≤ 100000) : okx n (.str z) = true := by
  unfold okx
  rw [low_ok h, decide_eq_true hl]; rfl
theorem nm_low {z : Str} (h : isNm (.str z) = true) : (∀ c ∈ z.cps.toList, c ≤ 126) ∧ 1 ≤ z.length ∧ z.length ≤ 12 := by
  have h' : (decide (1 ≤ z.length) && decide (z.length ≤ 12) && z.cps.toList.all fun c => decide (c ∈ nameChs.cps.toList)) = true := h
  rw [Bool.and_eq_true, Bool.and_eq_true, List.all_eq_true] at h'
  refine ⟨fun c hc => ?_, of_decide_eq_true h'.1.1, of_decide_eq_true h'.1.2⟩
  have h1 := of_decide_eq_true (h'.2 c hc)
  have : ∀ c ∈ nameChs.cps.toList, c ≤ 126 := by decide +kernel
  exact this c h1
theorem nm_okx {y : PyData} {n : Nat} (h : isNm y = true) : okx n y = true := by
  cases y with
  | str z => exact low_okx (nm_low h).1 (by have := (nm_low h).2.2; omega)
  | _ => cases h
theorem tx_okx {y : PyData} {n : Nat} (h : isTx y = true) : okx n y = true := by
  cases y with
  | str z =>
    have h' : (decide (z.length ≤ 40) && z.cps.toList.all plainCh) = true := h
    rw [Bool.and_eq_true, List.all_eq_true] at h'
    refine low_okx (fun c hc => ?_) (by have := of_decide_eq_true h'.1; omega)
    have h1 := h'.2 c hc
    unfold plainCh at h1
    rw [Bool.and_eq_true, Bool.and_eq_true] at h1
    exact of_decide_eq_true h1.1.2
  | _ => cases h
theorem zo_okx {y : PyData} {n : Nat} (h : isZo y = true) : okx n y = true := by
  unfold isZo at h
  rw [Bool.or_eq_true] at h
  rcases h with h | h
  · rw [eqv_strR h]; exact low_okx (by decide +kernel) (by decide +kernel)
  · exact nm_okx h
theorem in_okx {y : PyData} {lo hi : Int} {n : Nat} (h : intIn y lo hi = true) : okx n y = true := by
  obtain ⟨j, rfl, _⟩ := intIn_int h
  cases n <;> rfl
theorem sl_okx {y : PyData} {n : Nat} (h : isSl y = true) : okx n y = true := by
  cases y with
  | str z =>
    have h' : (decide (3 ≤ z.length) && (decide (z.cps.toList.getD (z.length - 1) 0 ∈ digChs.cps.toList) && (decide (z.cps.toList.getD (z.length - 2) 0 = 47) && isNm (.str (cutS z none (some (-2))))))) = true := h
    rw [Bool.and_eq_true, Bool.and_eq_true, Bool.and_eq_true] at h'
    obtain ⟨g1, g2, g3, g4⟩ := h'
    replace g1 := of_decide_eq_true g1
    replace g2 := of_decide_eq_true g2
    replace g3 := of_decide_eq_true g3
    have hz := z_len z
    have ec : (cutS z none (some (-2))).cps.toList = z.cps.toList.take (z.length - 2) := by
      unfold cutS
      show (List.take ((-2 + (z.length : Int)).toNat - 0) (z.cps.toList.drop 0)).toArray.toList = _
      rw [List.drop_zero, show (-2 + (z.length : Int)).toNat - 0 = z.length - 2 by omega]
    have e3 : (cutS z none (some (-2))).length = z.length - 2 := by rw [← z_len, ec, List.length_take, hz]; omega
    obtain ⟨l1, _, l3⟩ := nm_low g4
    rw [e3] at l3
    rw [ec] at l1
    refine low_okx (fun c hc => ?_) (by omega)
    obtain ⟨i, hi, rfl⟩ := List.mem_iff_getElem.mp hc
    by_cases h1 : i < z.length - 2
    · refine l1 _ ?_
      rw [List.mem_take_iff_getElem]
      exact ⟨i, by omega, rfl⟩
    · by_cases h2 : i = z.length - 2
      · subst h2
        rw [List.getD_eq_getElem?_getD, List.getElem?_eq_getElem hi, Option.getD_some] at g3
        rw [g3]; decide
      · have h3 : i = z.length - 1 := by omega
        subst h3
        rw [List.getD_eq_getElem?_getD, List.getElem?_eq_getElem hi, Option.getD_some] at g2
        have : ∀ c ∈ digChs.cps.toList, c ≤ 126 := by decide +kernel
        exact this _ g2
  | _ => cases h
theorem ky_okx {k y : PyData} {n m : Nat} (h : isKy k y = true) : okx n k = true ∧ okx m y = true := by
  obtain ⟨z, hz, rfl⟩ := isKy_kind h
  refine ⟨?_, ?_⟩
  · simp only [kindNames, List.mem_cons, List.not_mem_nil, or_false] at hz
    rcases hz with rfl | rfl | rfl | rfl | rfl | rfl | rfl <;> exact low_okx (by decide +kernel) (by decide +kernel)
  · unfold isKy at h
    split at h
    · exact sl_okx h
    · rw [Bool.and_eq_true] at h; exact nm_okx h.2
theorem open_okx : ∀ {xs : List PyData} {l : Int}, openFrom l xs = true → (∀ x ∈ xs, ∀ n, okx n x = true) ∧ l + xs.length ≤ 10 ∨ xs = []
  | [], l, _ => .inr rfl
  | x :: xs, l, h => by
    unfold openFrom at h
    rw [Bool.and_eq_true] at h
    obtain ⟨j, rfl, h1, h2⟩ := intIn_int h.1
    rcases open_okx h.2 with ⟨h3, h4⟩ | rfl
    · refine .inl ⟨fun x hx n => ?_, ?_⟩
      · rcases List.mem_cons.mp hx with rfl | hx
        · exact in_okx h.1
        · exact h3 x hx n
      · change j + 1 + (xs.length : Int) ≤ 10 at h4
        rw [List.length_cons]
        omega
    · refine .inl ⟨fun x hx n => ?_, ?_⟩
      · rw [List.mem_singleton] at hx; rw [hx]; exact in_okx h.1
      · show l + ((0 + 1 : Nat) : Int) ≤ 10; omega
theorem op_okx {y : PyData} {n : Nat} (h : isOpN y = true) : okx (n + 1) y = true := by
  cases y with
  | tuple xs =>
    rcases open_okx (show openFrom 0 xs = true from h) with ⟨h1, h2⟩ | rfl
    · exact okx_tup_of (by omega) fun x hx => h1 x hx n
    · rfl
  | _ => cases h
theorem st_okx {y : PyData} {n : Nat} (h : (statesD.any fun z => z.eqv y) = true) : okx n y = true := by
  rw [List.any_eq_true] at h
  obtain ⟨z, hz, he⟩ := h
  simp only [statesD, List.mem_cons, List.not_mem_nil, or_false] at hz
  rcases hz with rfl | rfl | rfl | rfl <;> (rw [eqv_strL he]; exact low_okx (by decide +kernel) (by decide +kernel))
theorem form_okx {z : Str} {y : PyData} (h : formOf z y = true) : okx 3 y = true := by
  have tup : ∀ {xs : List PyData}, xs.length ≤ 8 → (∀ x ∈ xs, okx 2 x = true) → okx 3 (.tuple xs) = true := fun hl h => okx_tup_of (by omega) h
  unfold formOf at h
  repeat' split at h
  · unfold fBeat at h
    split at h
    · simp only [Bool.and_eq_true, isCt] at h
      exact tup (by simp) (by simp [in_okx h.1, in_okx h.2])
    · cases h
  · unfold fDrain at h
    split at h
    · exact tup (by simp) (by simp [tx_okx h])
    · cases h
  · unfold fNode at h
    split at h
    · simp only [Bool.and_eq_true, isCt] at h
      exact tup (by simp) (by simp [in_okx h.1, in_okx h.2.1, in_okx h.2.2.1, in_okx h.2.2.2.1, zo_okx h.2.2.2.2])
    · cases h
  · unfold fNote at h
    split at h
    · simp only [Bool.and_eq_true, isCt, Bool.or_eq_true] at h
      rcases h.2.2 with h2 | h2
      · have e2 := eqv_strR h2.2
        subst e2
        have e1 := eqv_strR h2.1
        subst e1
        exact tup (by simp) (by simp [tx_okx h.1, in_okx h.2.1, (low_okx (by decide +kernel) (by decide +kernel) : okx 2 (.str "") = true)])
      · exact tup (by simp) (by simp [tx_okx h.1, in_okx h.2.1, (ky_okx (n := 2) (m := 2) h2).1, (ky_okx (n := 2) (m := 2) h2).2])
    · cases h
  · unfold fRollout at h
    split at h
    · simp only [Bool.and_eq_true, isCt] at h
      exact tup (by simp) (by simp [in_okx h.1, op_okx (n := 1) h.2])
    · cases h
  · unfold fService at h
    split at h
    · simp only [Bool.and_eq_true, isCt] at h
      exact tup (by simp) (by simp [in_okx h.1, in_okx h.2.1, tx_okx h.2.2.1, in_okx h.2.2.2.1, zo_okx h.2.2.2.2])
    · cases h
  · unfold fTask at h
    split at h
    · simp only [Bool.and_eq_true, isCt] at h
      exact tup (by simp) (by simp [in_okx h.1, in_okx h.2.1, in_okx h.2.2.1, tx_okx h.2.2.2.1, zo_okx h.2.2.2.2.1, zo_okx h.2.2.2.2.2.1, st_okx h.2.2.2.2.2.2.1, in_okx h.2.2.2.2.2.2.2])
    · cases h
theorem cutD_mem {xs : List PyData} {lo hi : Option Int} {x : PyData} (h : x ∈ cutD xs lo hi) : x ∈ xs := List.mem_of_mem_drop (List.mem_of_mem_take h)
theorem cutD_le {xs : List PyData} {lo hi : Option Int} : (cutD xs lo hi).length ≤ xs.length := by
  unfold cutD
  rw [List.length_take, List.length_drop]
  omega
theorem cutD_to {xs : List PyData} (j : Nat) : cutD xs none (some (j : Int)) = xs.take j := by
  unfold cutD
  rw [sIx_le]
  show ((xs.drop 0).take (min j xs.length - 0)) = _
  rw [List.drop_zero, Nat.sub_zero]
  by_cases h : j ≤ xs.length
  · rw [Nat.min_eq_left h]
  · rw [Nat.min_eq_right (by omega), List.take_length, List.take_of_length_le (by omega)]
theorem part_eq {ds : List Int} {i n : Nat} : cutD (ds.map PyData.int) (some ((n : Int) * (0 + (i : Int)))) (some ((n : Int) * (0 + (i : Int)) + (n : Int))) = ((ds.drop (n * i)).take n).map .int := by
  rw [show (n : Int) * (0 + (i : Int)) = ((n * i : Nat) : Int) by rw [Int.zero_add]; rfl, show ((n * i : Nat) : Int) + (n : Int) = ((n * i + n : Nat) : Int) by omega, cutD_mid, List.map_take, List.map_drop, Nat.add_sub_cancel_left]
theorem cond_okx {x : PyData} (h : isCond x = true) : okx 5 x = true := by
  unfold isCond at h
  split at h
  · rename_i k n r
    rw [Bool.and_eq_true] at h
    exact okx_tup_of (by simp) (by simp [(ky_okx (n := 4) (m := 4) h.1).1, (ky_okx (n := 4) (m := 4) h.1).2, in_okx (n := 4) h.2])
  · cases h
theorem obj_parts {k n v : PyData} (h : isObj k n v = true) : isKy k n = true ∧ okx 3 v = true := by
  unfold isObj at h
  rw [Bool.and_eq_true] at h
  obtain ⟨z, _, rfl⟩ := isKy_kind h.1
  refine ⟨h.1, ?_⟩
  have h2 := h.2
  rw [Bool.and_eq_true] at h2
  exact form_okx h2.2
theorem put_okx {x : PyData} (h : isPut x = true) : okx 5 x = true := by
  unfold isPut at h
  split at h
  · rename_i k n v
    obtain ⟨h1, h2⟩ := obj_parts h
    exact okx_tup_of (by simp) (by simp [(ky_okx (n := 4) (m := 4) h1).1, (ky_okx (n := 4) (m := 4) h1).2, okx_mono (m := 4) (by decide) h2])
  · cases h
theorem del_okx {x : PyData} (h : isDel x = true) : okx 5 x = true := by
  unfold isDel at h
  split at h
  · rename_i k n
    exact okx_tup_of (by simp) (by simp [(ky_okx (n := 4) (m := 4) h).1, (ky_okx (n := 4) (m := 4) h).2])
  · cases h
def no13 (_ : PyData) : Prop := True
structure GoodT (c p d : List PyData) : Prop where
  lc : c.length ≤ 3
  lp : p.length ≤ 3
  ld : d.length ≤ 3
  ac : c.all isCond = true
  ap : p.all isPut = true
  ad : d.all isDel = true
  k : ((p.map put2 ++ d).map keyOf).Nodup
  n : ∀ k ∈ p.map put2 ++ d, no13 k
/-- while puts and deletes are gathered -/
structure GatherT (i : Nat) (p d ks : List PyData) : Prop where
  lp : p.length ≤ i
  ld : d.length ≤ i
  lk : ks.length ≤ i
  ap : p.all isPut = true
  ad : d.all isDel = true
  k : ((p.map put2 ++ d).map keyOf).Nodup
  n : ∀ k ∈ p.map put2 ++ d, no13 k
  m : ∀ k ∈ p.map put2 ++ d, k ∈ ks
  s : ∀ k ∈ ks, is2S k
  o : ∀ k ∈ ks, okx 3 k = true
theorem keyOf_inj {x y : PyData} (hx : is2S x) (hy : is2S y) (h : keyOf x = keyOf y) : x = y := by
  obtain ⟨a, b, rfl⟩ := hx
  obtain ⟨c, d, rfl⟩ := hy
  have h' : ([.inr a, .inr b] : List Key) = [.inr c, .inr d] := h
  injection h' with h1 h2
  injection h2 with h3 h4
  cases h1
  cases h3
  rfl
theorem GatherT.new {i : Nat} {p d ks : List PyData} {x : PyData} (g : GatherT i p d ks) (hx : is2S x) (hn : x ∉ ks) : keyOf x ∉ (p.map put2 ++ d).map keyOf := fun h => by
  obtain ⟨y, hy, e⟩ := List.mem_map.mp h
  have := keyOf_inj (g.s y (g.m y hy)) hx e
  subst this
  exact hn (g.m _ hy)
theorem GatherT.del {i : Nat} {p d ks : List PyData} {x : PyData} (g : GatherT i p d ks) (hx : is2S x) (hxo : okx 3 x = true) (h13 : no13 x) (hn : x ∉ ks) (hd : isDel x = true) : GatherT (i + 1) p (d ++ [x]) (ks ++ [x]) where
  lp := Nat.le_succ_of_le g.lp
  ld := by rw [List.length_append]; exact Nat.succ_le_succ g.ld
  lk := by rw [List.length_append]; exact Nat.succ_le_succ g.lk
  ap := g.ap
  ad := by rw [List.all_append, g.ad]; simp [hd]
  k := by
    rw [← List.append_assoc, List.map_append, List.nodup_append]
    refine ⟨g.k, by simp, fun a ha b hb => ?_⟩
    rw [List.map_singleton, List.mem_singleton] at hb
    rw [hb]
    exact fun e => g.new hx hn (e ▸ ha)
  n := fun k hk => by
    rw [← List.append_assoc] at hk
    rcases List.mem_append.mp hk with h | h
    · exact g.n k h
    · rw [List.mem_singleton.mp h]; exact h13
  m := fun k hk => by
    rw [← List.append_assoc] at hk
    rcases List.mem_append.mp hk with h | h
    · exact List.mem_append_left _ (g.m k h)
    · exact List.mem_append_right _ h
  s := fun k hk => by
    rcases List.mem_append.mp hk with h | h
    · exact g.s k h
    · rw [List.mem_singleton.mp h]; exact hx
  o := fun k hk => by
    rcases List.mem_append.mp hk with h | h
    · exact g.o k h
    · rw [List.mem_singleton.mp h]; exact hxo
theorem GatherT.put {i : Nat} {p d ks : List PyData} {x y : PyData} (g : GatherT i p d ks) (hx : is2S x) (hxo : okx 3 x = true) (h13 : no13 x) (hn : x ∉ ks) (hp : isPut y = true) (e : put2 y = x) : GatherT (i + 1) (p ++ [y]) d (ks ++ [x]) := by
  have hperm : (List.map put2 (p ++ [y]) ++ d).Perm ((p.map put2 ++ d) ++ [x]) := by
    rw [List.map_append, List.map_singleton, e, List.append_assoc, List.append_assoc]
    exact List.Perm.append_left _ List.perm_append_comm
  refine ⟨?_, Nat.le_succ_of_le g.ld, ?_, ?_, g.ad, ?_, fun k hk => ?_, fun k hk => ?_, fun k hk => ?_, fun k hk => ?_⟩
  · rw [List.length_append]; exact Nat.succ_le_succ g.lp
  · rw [List.length_append]; exact Nat.succ_le_succ g.lk
  · rw [List.all_append, g.ap]; simp [hp]
  · rw [(hperm.map keyOf).nodup_iff, List.map_append, List.nodup_append]
    refine ⟨g.k, by simp, fun a ha b hb => ?_⟩
    rw [List.map_singleton, List.mem_singleton] at hb
    rw [hb]
    exact fun e => g.new hx hn (e ▸ ha)
  · rcases List.mem_append.mp (hperm.mem_iff.mp hk) with h | h
    · exact g.n k h
    · rw [List.mem_singleton.mp h]; exact h13
  · rcases List.mem_append.mp (hperm.mem_iff.mp hk) with h | h
    · exact List.mem_append_left _ (g.m k h)
    · exact List.mem_append_right _ h
  · rcases List.mem_append.mp hk with h | h
    · exact g.s k h
    · rw [List.mem_singleton.mp h]; exact hx
  · rcases List.mem_append.mp hk with h | h
    · exact g.o k h
    · rw [List.mem_singleton.mp h]; exact hxo
theorem GatherT.keep {i : Nat} {p d ks : List PyData} (g : GatherT i p d ks) : GatherT (i + 1) p d ks := ⟨Nat.le_succ_of_le g.lp, Nat.le_succ_of_le g.ld, Nat.le_succ_of_le g.lk, g.ap, g.ad, g.k, g.n, g.m, g.s, g.o⟩
theorem eqv_self2 {a b : Str} : (PyData.tuple [.str a, .str b]).eqv (.tuple [.str a, .str b]) = true := by
  simp only [PyData.eqv, PyData.eqvAll, beq_self_eq_true, Bool.and_true]
theorem cut_at {ds : List Int} {lo hi : Int} {a n : Nat} (h1 : lo = (a : Int)) (h2 : hi = ((a + n : Nat) : Int)) : cutD (ds.map PyData.int) (some lo) (some hi) = ((ds.drop a).take n).map .int := by
  rw [h1, h2, cutD_mid, List.map_take, List.map_drop, Nat.add_sub_cancel_left]
/-! # the law's words for rows -/
def rowsL (e : PyData) (es : List PyData) : Prop := e = .list es ∧ es.length ≤ 40000 ∧ (∀ r ∈ es, isRow r)
theorem fR_take {es : List PyData} {k : List Key} {i : Nat} {x : PyData} (h : findR (es.take i) k = none) (hx : es[i]? = some x) : findR (es.take (i + 1)) k = if kR x = k then some x else none := by
  unfold findR at h ⊢
  rw [take_succ_app hx, List.find?_append, h, Option.none_or, List.find?_cons]
  by_cases e : kR x = k
  · rw [decide_eq_true e, if_pos e]
  · rw [decide_eq_false e, if_neg e]; rfl
theorem fR_hit {es : List PyData} {k : List Key} {i : Nat} {x : PyData} (h : findR (es.take i) k = none) (hx : es[i]? = some x) (e : kR x = k) : findR es k = some x := by
  have h1 := fR_take h hx
  rw [if_pos e] at h1
  unfold findR at h1 ⊢
  rw [← List.take_append_drop (i + 1) es, List.find?_append, h1, Option.some_or]
theorem kR_eq {a b c d : Str} {t : List PyData} : kR (.tuple (.str a :: .str b :: t)) = [.inr c, .inr d] ↔ a = c ∧ b = d := by
  show ([.inr a, .inr b] : List Key) = _ ↔ _
  constructor
  · intro e
    have e1 := Sum.inr.inj (List.cons.inj e).1
    have e2 := Sum.inr.inj (List.cons.inj (List.cons.inj e).2).1
    exact ⟨e1, e2⟩
  · rintro ⟨rfl, rfl⟩; rfl
theorem at0 {α : Type} {a : α} {t : List α} : atI (a :: t) 0 = some a := by
  unfold atI ixN
  rw [if_pos (by decide), if_pos (by rw [List.length_cons]; omega)]; rfl
theorem at1 {α : Type} {a b : α} {t : List α} : atI (a :: b :: t) 1 = some b := by
  unfold atI ixN
  rw [if_pos (by decide), if_pos (by rw [List.length_cons, List.length_cons]; omega)]; rfl
section
variable {P : Program} {w : World} {K : PySem.W.Frag} {mg : Str → Option Value} {base : Heap}
theorem ok__law_find (T : TX K mg w) : FnOk P w K mg base CX0 1 T.a__law_find T.d__law_find ["entries", "kind", "name"] (spP K (P3 fun e k n => ∃ es a b, rowsL e es ∧ k = .str a ∧ n = .str b) (fun as r => ∀ es a b, as = [.list es, .str a, .str b] → r = .d ((findR es [.inr a, .inr b]).getD .none))) := by
  refine okP T.F__law_find sc__law_find 1 rfl P3.len fun cdv A outer s H E hr => ⟨_, (pss_cons (ps_for PassesOwn.never rfl (piK_list (K := K) rfl (pv 0)) (pg_name (i := 3) sc__law_find.nd rfl (Or.inl rfl))
        (pss_one (ps_if (PW.pt (pw_and (pt_cmpR op_eq (pe_ix (ixK_tup (K := K) rfl) (pv 3) pe_int (fun _ _ => rfl)) (pv 1) (nomark _)) (pw_and1 (pt_cmpR op_eq (pe_ix (ixK_tup (K := K) rfl) (pv 3) pe_int (fun _ _ => rfl)) (pv 2) (nomark _))))) (pss_one (ps_ret (pv 3))) pss_nil)))
      (pss_one (ps_ret pe_non))), fun ds hd => ?_⟩
  obtain ⟨e, k, n, rfl, es, a, b, ⟨rfl, hl, hrow⟩, rfl, rfl⟩ := hd
  walk_at "pn"
  walk_at "px"
  refine ws_for ?_
  walk_at "px"
  refine ⟨Unit, fun _ => [.d (.list es), .d (.str a), .d (.str b), .u], fun _ => (), fun i _ => findR (es.take i) [.inr a, .inr b] = none, nxt () (by walk_at "wk") rfl rfl, fun i x s hx hI => ?_, fun s hI => ?_⟩
  · have hI : findR (es.take i) [.inr a, .inr b] = none := hI
    have hm := List.mem_of_getElem? hx
    obtain ⟨c, d, t, rfl⟩ := hrow x hm
    have nh : ¬ (c = a ∧ d = b) → findR (es.take (i + 1)) [.inr a, .inr b] = none := fun z => by rw [fR_take hI hx, if_neg (fun y => z (kR_eq.mp y))]
    have hh : c = a ∧ d = b → findR es [.inr a, .inr b] = some (.tuple (.str c :: .str d :: t)) := fun z => fR_hit hI hx (kR_eq.mpr z)
    clear hx
    have i0 : atI (PyData.str c :: .str d :: t) 0 = some (.str c) := at0
    have i1 : atI (PyData.str c :: .str d :: t) 1 = some (.str d) := at1
    walk_at "pn"
    walk_at "px"
    refine ⟨fun h1 => ?_, fun h1 => ?_⟩
    · have h1 := of_decide_eq_true h1
      walk_at "px"
      refine ⟨fun h2 => ?_, fun h2 => ?_⟩
      · have h2 := of_decide_eq_true h2
        walk_at "px"
        refine ⟨fun es' a' b' e => ?_, True.intro⟩
        cases e
        rw [hh ⟨h1, h2⟩]; rfl
      · have h2 := of_decide_eq_false h2
        walk_at "px"
        exact nxt () (by walk_at "wk") rfl (nh fun z => h2 z.2)
    · have h1 := of_decide_eq_false h1
      walk_at "px"
      exact nxt () (by walk_at "wk") rfl (nh fun z => h1 z.1)
  · have hI : findR (es.take es.length) [.inr a, .inr b] = none := hI
    rw [List.take_length] at hI
    walk_at "pn"
    walk_at "px"
    refine ⟨fun es' a' b' e => ?_, True.intro⟩
    cases e
    rw [hI]; rfl
theorem ok__law_less (T : TX K mg w) : FnOk P w K mg base CX0 1 T.a__law_less T.d__law_less ["one", "two"] (spP K (P2 fun x y => isRow x ∧ isRow y) (R2' fun x y => .bool (lessD x y))) := by
  refine okP T.F__law_less sc__law_less 0 rfl P2.len fun cdv A outer s H E hr => ⟨_, (pss_one (ps_ret (pe_or (pe_cmpR op_ltS (pe_ix (ixK_tup (K := K) rfl) (pv 0) pe_int (fun _ _ => rfl)) (pe_ix (ixK_tup (K := K) rfl) (pv 1) pe_int (fun _ _ => rfl)) (nomark _)) (pe_one (pe_and (pe_cmpR op_eq (pe_ix (ixK_tup (K := K) rfl) (pv 0) pe_int (fun _ _ => rfl)) (pe_ix (ixK_tup (K := K) rfl) (pv 1) pe_int (fun _ _ => rfl)) (nomark _)) (pe_one (pe_cmpR op_ltS (pe_ix (ixK_tup (K := K) rfl) (pv 0) pe_int (fun _ _ => rfl)) (pe_ix (ixK_tup (K := K) rfl) (pv 1) pe_int (fun _ _ => rfl)) (nomark _)))))))), fun ds hd => ?_⟩
  obtain ⟨x, y, rfl, ⟨a, b, t, rfl⟩, ⟨c, d, u, rfl⟩⟩ := hd
  have e : lessD (.tuple (.str a :: .str b :: t)) (.tuple (.str c :: .str d :: u)) = (decide (a.cps.toList < c.cps.toList) || (decide (a = c) && decide (b.cps.toList < d.cps.toList))) := ltK_pair a b c d
  have i0 : atI (PyData.str a :: .str b :: t) 0 = some (.str a) := at0
  have i1 : atI (PyData.str a :: .str b :: t) 1 = some (.str b) := at1
  have j0 : atI (PyData.str c :: .str d :: u) 0 = some (.str c) := at0
  have j1 : atI (PyData.str c :: .str d :: u) 1 = some (.str d) := at1
  walk_at "pn"
  walk_at "px"
  refine ⟨fun h1 => ?_, fun h1 => ?_⟩
  · walk_at "px"
    refine ⟨fun h2 => ?_, fun h2 => ?_⟩
    · walk_at "px"
      refine r2d ?_
      rw [e, h1, h2, Bool.false_or, Bool.true_and]
    · refine r2d ?_
      rw [e, h1, h2]; rfl
  · refine r2d ?_
    rw [e, h1]; rfl
theorem ok__law_placed (T : TX K mg w) : FnOk P w K mg base CX0 2 T.a__law_placed T.d__law_placed ["entries", "entry"] (spP K (P2 fun e x => ∃ es, rowsL e es ∧ isRow x) (fun as r => ∀ es x, as = [.list es, x] → r = .o (placeD es x))) := by
  refine okP T.F__law_placed sc__law_placed 3 rfl P2.len fun cdv A outer s H E hr => ⟨_, (pss_cons (ps_setLc (i := 2) (own := [("one", 4)]) (g := gName 4)  (by rfl) sc__law_placed.nd rfl rfl (sw_true rfl rfl rfl (by decide +kernel)) (piK_list (K := K) rfl (pv 0)) (blkOk_by (own := [("one", 4)]) (N := ["entries", "entry", "before", "after", "one"]) (sc := defScope s__law_placed) (by decide +kernel)) (fun _ _ _ _ _ => pg_name (i := 4) sc__law_placed.nd rfl (Or.inl rfl)) (fun _ _ _ _ _ => pts_one (pt_val (pe_call (ok__law_less T) (hr.mono (by decide)) (by rfl) T.g__law_less T.F__law_less.kp T.b__law_less .nil pass0 (pa_cons (pv 4) (pa_cons (pv 1) pa_nil))))) (fun _ _ _ _ _ => (pv 4)))
      (pss_cons (ps_setLc (i := 3) (own := [("one", 4)]) (g := gName 4)  (by rfl) sc__law_placed.nd rfl rfl (sw_true rfl rfl rfl (by decide +kernel)) (piK_list (K := K) rfl (pv 0)) (blkOk_by (own := [("one", 4)]) (N := ["entries", "entry", "before", "after", "one"]) (sc := defScope s__law_placed) (by decide +kernel)) (fun _ _ _ _ _ => pg_name (i := 4) sc__law_placed.nd rfl (Or.inl rfl)) (fun _ _ _ _ _ => pts_one (pt_val (pe_call (ok__law_less T) (hr.mono (by decide)) (by rfl) T.g__law_less T.F__law_less.kp T.b__law_less .nil pass0 (pa_cons (pv 1) (pa_cons (pv 4) pa_nil))))) (fun _ _ _ _ _ => (pv 4)))
      (pss_one (ps_ret (pe_op op_cat (pe_op op_cat (pv 2) (pe_lst (pa_cons (pv 1) pa_nil))) (pv 3)))))), fun ds hd => ?_⟩
  obtain ⟨e, x, rfl, es, ⟨rfl, hl, hrow⟩, hx⟩ := hd
  walk_at "pn"
  refine ws_seq (ws_asg (we_lcF (by walk_at "ww") rfl ?_))
  walk_at "px"
  refine ⟨fun r => r, fun r => lessD r x, by omega, fun r hr => ?_, ?_⟩
  · have hrr := hrow r hr
    walk_at "px"
    intro _
    walk_at "px"
    exact rfl
  walk_at "pn"
  refine ws_seq (ws_asg (we_lcF (by walk_at "ww") rfl ?_))
  walk_at "px"
  refine ⟨fun r => r, fun r => lessD x r, by omega, fun r hr => ?_, ?_⟩
  · have hrr := hrow r hr
    walk_at "px"
    intro _
    walk_at "px"
    exact rfl
  have l1 : (es.filter fun r => lessD r x).length ≤ es.length := List.length_filter_le _ _
  have l2 : (es.filter fun r => lessD x r).length ≤ es.length := List.length_filter_le _ _
  rw [List.map_id', List.map_id']
  walk_at "pn"
  walk_at "px"
  refine opP_cat rfl rfl (by show _ + 1 ≤ _; omega) ?_
  walk_at "px"
  refine opP_cat rfl rfl (by rw [List.length_append]; show _ + 1 + _ ≤ _; omega) ?_
  refine ⟨fun es' x' e => ?_, True.intro⟩
  cases e
  rfl
end
/-! done -/
theorem place_len {xs : List PyData} {e : PyData} : (placeD xs e).length ≤ xs.length + 1 := by
  have h : ∀ ys : List PyData, (ys.filter fun r => lessD r e).length + (ys.filter fun r => lessD e r).length ≤ ys.length := fun ys => by
    induction ys with
    | nil => exact Nat.le_refl _
    | cons y ys ih =>
      rw [List.filter_cons, List.filter_cons]
      cases h1 : lessD y e with
      | true =>
        have h2 : lessD e y = false := by
          rw [Bool.eq_false_iff]
          intro h2
          have z := ltK_trans h1 h2
          rw [ltK_irr] at z; cases z
        rw [h2]
        simp only [if_true, Bool.false_eq_true, if_false, List.length_cons]
        omega
      | false =>
        cases h2 : lessD e y with
        | true =>
          simp only [if_true, Bool.false_eq_true, if_false, List.length_cons]
          omega
        | false =>
          simp only [Bool.false_eq_true, if_false, List.length_cons]
          omega
  unfold placeD
  rw [List.length_append, List.length_append]
  show _ + 1 + _ ≤ _
  have := h xs
  omega
def bornR (es : List PyData) (k : List Key) (rev : Int) : PyData := match findR es k with
  | some (.tuple [_, _, b, _, _]) => b
  | _ => .int rev
def putRow (rev : Int) (es : List PyData) : PyData → List PyData
  | .tuple [.str k, .str n, v] => placeD es (.tuple [.str k, .str n, bornR es [.inr k, .inr n] rev, .int rev, v])
  | _ => es
def delRow (es : List PyData) (d : PyData) : List PyData := es.filter fun r => decide (kR r ≠ keyOf d)
def doneR (es : List PyData) (rev : Int) (ps dl : List PyData) : List PyData := dl.foldl delRow (ps.foldl (putRow rev) es)
def isEnt (r : PyData) : Prop := ∃ a b x y c, r = .tuple [.str a, .str b, .int x, .int y, c]
theorem isEnt.row {r : PyData} (h : isEnt r) : isRow r := by obtain ⟨a, b, x, y, c, rfl⟩ := h; exact ⟨a, b, _, rfl⟩
def isP3 (p : PyData) : Prop := ∃ k n v, p = .tuple [.str k, .str n, v]
theorem findR_mem {es : List PyData} {k : List Key} {r : PyData} (h : findR es k = some r) : r ∈ es := List.mem_of_find?_eq_some h
theorem born_int {es : List PyData} {k : List Key} {rev : Int} (h : ∀ r ∈ es, isEnt r) : ∃ b, bornR es k rev = .int b := by
  unfold bornR
  cases hf : findR es k with
  | none => exact ⟨rev, rfl⟩
  | some r => obtain ⟨a, b, x, y, c, rfl⟩ := h r (findR_mem hf); exact ⟨x, rfl⟩
theorem mem_place_of {xs : List PyData} {e r : PyData} (h : r ∈ placeD xs e) : r = e ∨ r ∈ xs := by
  unfold placeD at h
  rcases List.mem_append.mp h with h | h
  · rcases List.mem_append.mp h with h | h
    · exact .inr (List.mem_filter.mp h).1
    · exact .inl (List.mem_singleton.mp h)
  · exact .inr (List.mem_filter.mp h).1
theorem putRow_ent {rev : Int} {es : List PyData} {p : PyData} (h : ∀ r ∈ es, isEnt r) : ∀ r ∈ putRow rev es p, isEnt r := by
  unfold putRow
  split
  · rename_i k n v
    intro r hr
    rcases mem_place_of hr with rfl | hr
    · obtain ⟨b, e⟩ := born_int (k := [.inr k, .inr n]) (rev := rev) h
      exact ⟨k, n, b, rev, v, by rw [e]⟩
    · exact h r hr
  · exact h
theorem putRow_len {rev : Int} {es : List PyData} {p : PyData} : (putRow rev es p).length ≤ es.length + 1 := by
  unfold putRow
  split
  · exact place_len
  · omega
section
variable {P : Program} {w : World} {K : PySem.W.Frag} {mg : Str → Option Value} {base : Heap}
theorem ok__law_done (T : TX K mg w) : FnOk P w K mg base CX0 3 T.a__law_done T.d__law_done ["entries", "revision", "transaction"] (spP K (P3 fun e r t => ∃ es rev cs ps dl, e = .list es ∧ es.length ≤ 30000 ∧ (∀ r ∈ es, isEnt r) ∧ r = .int rev ∧ t = .tuple [cs, .tuple ps, .tuple dl] ∧ ps.length ≤ 1000 ∧ (∀ p ∈ ps, isP3 p) ∧ ∀ d ∈ dl, is2S d)
    (fun as r => ∀ es rev cs ps dl, as = [.list es, .int rev, .tuple [cs, .tuple ps, .tuple dl]] → r = .d (.list (doneR es rev ps dl)))) := by
  refine okP T.F__law_done sc__law_done 6 rfl P3.len fun cdv A outer s H E hr => ⟨_, (pss_cons (ps_for PassesOwn.never rfl (piK_tup (K := K) rfl (pe_ix (ixK_tup (K := K) rfl) (pv 2) pe_int (fun _ _ => rfl))) (pgK_tup (K := K) (n := 3) rfl rfl (pgs_cons (pg_name (i := 3) sc__law_done.nd rfl (Or.inr rfl)) (pgs_cons (pg_name (i := 4) sc__law_done.nd rfl (Or.inr rfl)) (pgs_cons (pg_name (i := 5) sc__law_done.nd rfl (Or.inl rfl)) pgs_nil))))
        (pss_cons (ps_set (i := 6) sc__law_done.nd rfl (Or.inl rfl) (pe_call (ok__law_find T) (hr.mono (by decide)) (by rfl) T.g__law_find T.F__law_find.kp T.b__law_find .nil pass0 (pa_cons (pv 0) (pa_cons (pv 3) (pa_cons (pv 4) pa_nil)))))
        (pss_cons (ps_set (i := 7) sc__law_done.nd rfl (Or.inl rfl) (pv 1))
        (pss_cons (ps_if (pt_cmpR op_notN1 (pv 6) pe_non (nomark _)) (pss_one (ps_set (i := 7) sc__law_done.nd rfl (Or.inl rfl) (pe_ix (ixK_tup (K := K) rfl) (pv 6) pe_int (fun _ _ => rfl)))) pss_nil)
        (pss_one (ps_set (i := 0) sc__law_done.nd rfl (Or.inl rfl) (pe_call (ok__law_placed T) (hr.mono (by decide)) (by rfl) T.g__law_placed T.F__law_placed.kp T.b__law_placed .nil pass0 (pa_cons (pv 0) (pa_cons (pe_tup (pa_cons (pv 3) (pa_cons (pv 4) (pa_cons (pv 7) (pa_cons (pv 1) (pa_cons (pv 5) pa_nil)))))) pa_nil)))))))))
      (pss_cons (ps_for PassesOwn.never rfl (piK_tup (K := K) rfl (pe_ix (ixK_tup (K := K) rfl) (pv 2) pe_int (fun _ _ => rfl))) (pgK_tup (K := K) (n := 2) rfl rfl (pgs_cons (pg_name (i := 3) sc__law_done.nd rfl (Or.inr rfl)) (pgs_cons (pg_name (i := 4) sc__law_done.nd rfl (Or.inr rfl)) pgs_nil)))
        (pss_one (ps_setLc (i := 0) (own := [("one", 8)]) (g := gName 8)  (by rfl) sc__law_done.nd rfl rfl (sw_true rfl rfl rfl (by decide +kernel)) (piK_list (K := K) rfl (pv 0)) (blkOk_by (own := [("one", 8)]) (N := ["entries", "revision", "transaction", "kind", "name", "value", "found", "born", "one"]) (sc := defScope s__law_done) (by decide +kernel)) (fun _ _ _ _ _ => pg_name (i := 8) sc__law_done.nd rfl (Or.inl rfl)) (fun _ _ _ _ _ => pts_one (PW.pt (pw_or (pt_cmpR op_ne (pe_ix (ixK_tup (K := K) rfl) (pv 8) pe_int (fun _ _ => rfl)) (pv 3) (nomark _)) (pw_or1 (pt_cmpR op_ne (pe_ix (ixK_tup (K := K) rfl) (pv 8) pe_int (fun _ _ => rfl)) (pv 4) (nomark _)))))) (fun _ _ _ _ _ => (pv 8)))))
      (pss_one (ps_ret (pv 0))))), fun ds hd => ?_⟩
  obtain ⟨_, _, _, rfl, es, rev, cs, ps, dl, rfl, hl, hent, rfl, rfl, hpl, hp, hdl⟩ := hd
  walk_at "pn"
  walk_at "px"
  refine ws_for ?_
  walk_at "px"
  refine ⟨List PyData, fun xs => [.d (.list xs), .d (.int rev), .d (.tuple [cs, .tuple ps, .tuple dl]), .u, .u, .u, .u, .u, .u], fun _ => (), fun i xs => xs = (ps.take i).foldl (putRow rev) es ∧ xs.length ≤ es.length + i ∧ ∀ r ∈ xs, isEnt r, nxt es (by walk_at "wk") rfl ⟨rfl, Nat.le_refl _, hent⟩, fun i x xs hx hI => ?_, fun xs hI => ?_⟩
  · obtain ⟨g1, g2, g3⟩ := hI
    have g1 : xs = (ps.take i).foldl (putRow rev) es := g1
    have g2 : xs.length ≤ es.length + i := g2
    have hi := (List.getElem?_eq_some_iff.mp hx).1
    obtain ⟨k, n, v, rfl⟩ := hp x (List.mem_of_getElem? hx)
    have htk : (ps.take (i + 1)).foldl (putRow rev) es = putRow rev xs (.tuple [.str k, .str n, v]) := by
      rw [take_succ_app hx, List.foldl_append, ← g1]; rfl
    have hnl : (putRow rev xs (.tuple [.str k, .str n, v])).length ≤ es.length + (i + 1) := Nat.le_trans putRow_len (by omega)
    have hne := putRow_ent (rev := rev) (p := .tuple [.str k, .str n, v]) g3
    have hrow : ∀ r ∈ xs, isRow r := fun r hr => (g3 r hr).row
    have hxl : xs.length ≤ 40000 := by omega
    have hep : putRow rev xs (.tuple [.str k, .str n, v]) = placeD xs (.tuple [.str k, .str n, bornR xs [.inr k, .inr n] rev, .int rev, v]) := rfl
    clear hx
    walk_at "pn"
    walk_at "px"
    refine we_callP ?_
    walk_at "px"
    refine ⟨⟨_, _, _, rfl, xs, k, n, ⟨rfl, hxl, hrow⟩, rfl, rfl⟩, fun r hr2 => ?_⟩
    obtain rfl := hr2 _ _ _ rfl
    walk_at "pn"
    refine ws_mid [.d (.list xs), .d (.int rev), .d (.tuple [cs, .tuple ps, .tuple dl]), .d (.str k), .d (.str n), .d v, .d ((findR xs [.inr k, .inr n]).getD .none), .d (.int rev), .u] (by walk_at "px"; rfl) ?_
    refine ws_seqI Unit (fun _ => [.d (.list xs), .d (.int rev), .d (.tuple [cs, .tuple ps, .tuple dl]), .d (.str k), .d (.str n), .d v, .u, .d (bornR xs [.inr k, .inr n] rev), .u]) (fun _ => True) ?_ fun _ _ => ?_
    · unfold bornR
      cases hf : findR xs [.inr k, .inr n] with
      | none =>
        dsimp only [Option.getD]
        walk_at "px"
        exact nxt () (by walk_at "wk") rfl True.intro
      | some r =>
        obtain ⟨a, b, x, y, c, rfl⟩ := g3 r (findR_mem hf)
        dsimp only [Option.getD]
        walk_at "px"
        exact nxt () (by walk_at "wk") rfl True.intro
    · refine ws_fz 0 ?_
      walk_at "px"
      refine we_callP ?_
      walk_at "px"
      refine ⟨⟨_, _, rfl, xs, ⟨rfl, hxl, hrow⟩, ⟨k, n, _, rfl⟩⟩, fun r hr3 => ?_⟩
      obtain rfl := hr3 _ _ rfl
      rw [← hep]
      refine ⟨_, rfl, ?_⟩
      exact nxt (putRow rev xs (.tuple [.str k, .str n, v])) (by walk_at "wk") rfl ⟨htk.symm, hnl, hne⟩
  · obtain ⟨g1, g2, g3⟩ := hI
    rw [List.take_length] at g1
    have g1 : xs = ps.foldl (putRow rev) es := g1
    have g2 : xs.length ≤ es.length + ps.length := g2
    walk_at "pn"
    walk_at "px"
    refine ws_for ?_
    walk_at "px"
    refine ⟨List PyData, fun xs => [.d (.list xs), .d (.int rev), .d (.tuple [cs, .tuple ps, .tuple dl]), .u, .u, .u, .u, .u, .u], fun _ => (), fun i ys => ys = (dl.take i).foldl delRow xs ∧ ys.length ≤ xs.length ∧ ∀ r ∈ ys, isEnt r, nxt xs (by walk_at "wk") rfl ⟨rfl, Nat.le_refl _, g3⟩, fun i x ys hx hJ => ?_, fun ys hJ => ?_⟩
    · obtain ⟨j1, j2, j3⟩ := hJ
      have j1 : ys = (dl.take i).foldl delRow xs := j1
      have j2 : ys.length ≤ xs.length := j2
      obtain ⟨k, n, rfl⟩ := hdl x (List.mem_of_getElem? hx)
      have htk : (dl.take (i + 1)).foldl delRow xs = delRow ys (.tuple [.str k, .str n]) := by
        rw [take_succ_app hx, List.foldl_append, ← j1]; rfl
      have hnl : (delRow ys (.tuple [.str k, .str n])).length ≤ xs.length := Nat.le_trans (List.length_filter_le _ _) j2
      have hne : ∀ r ∈ delRow ys (.tuple [.str k, .str n]), isEnt r := fun r hr => j3 r (List.mem_filter.mp hr).1
      clear hx
      walk_at "pn"
      refine wg_tup rfl (wgs_cons (wg_name (wgs_cons (wg_name (wgs_nil ?_)))))
      walk_at "pn"
      refine ws_fz 0 ?_
      refine ws_asg (we_lcF (by walk_at "ww") rfl ?_)
      walk_at "px"
      refine ⟨fun r => r, fun r => decide (kR r ≠ [.inr k, .inr n]), by omega, fun r hr => ?_, ?_⟩
      · obtain ⟨a, b, x, y, c, rfl⟩ := j3 r hr
        have hb : decide (kR (.tuple [.str a, .str b, .int x, .int y, c]) ≠ [.inr k, .inr n]) = !(decide (a = k) && decide (b = n)) := by
          by_cases h1 : a = k
          · by_cases h2 : b = n
            · rw [decide_eq_true h1, decide_eq_true h2]
              exact decide_eq_false fun z => z (kR_eq.mpr ⟨h1, h2⟩)
            · rw [decide_eq_false h2, Bool.and_false]
              exact decide_eq_true fun z => h2 (kR_eq.mp z).2
          · rw [decide_eq_false h1]
            exact decide_eq_true fun z => h1 (kR_eq.mp z).1
        walk_at "px"
        refine ⟨fun h1 => ?_, fun h1 => ?_⟩
        · have h1 : decide (a = k) = true := by simpa using h1
          walk_at "px"
          refine ⟨by show _ = decide _; rw [hb, h1, Bool.true_and], fun _ => ?_⟩
          walk_at "px"
          exact rfl
        · have h1 : decide (a = k) = false := by simpa using h1
          refine ⟨rfl, by show _ = decide _; rw [hb, h1]; rfl, fun _ => ?_⟩
          walk_at "px"
          exact rfl
      · rw [List.map_id']
        exact ⟨_, rfl, nxt (delRow ys (.tuple [.str k, .str n])) (by walk_at "wk") rfl ⟨htk.symm, hnl, hne⟩⟩
    · obtain ⟨j1, j2, j3⟩ := hJ
      rw [List.take_length] at j1
      have j1 : ys = dl.foldl delRow xs := j1
      walk_at "pn"
      walk_at "px"
      refine ⟨fun es' rev' cs' ps' dl' e => ?_, True.intro⟩
      cases e
      rw [j1, g1]
      rfl
end
/-! # the law's transactions -/
/-- a row that a transaction may speak of -/
def isEK (r : PyData) : Prop := ∃ a b x y c, r = .tuple [.str a, .str b, .int x, .int y, c] ∧ isKy (.str a) (.str b) = true ∧ 0 ≤ y ∧ y ≤ 100000
theorem isEK.ent {r : PyData} (h : isEK r) : isEnt r := by obtain ⟨a, b, x, y, c, rfl, _⟩ := h; exact ⟨a, b, x, y, c, rfl⟩
structure GoodE (es : List PyData) : Prop where
  l : es.length ≤ 30000
  r : ∀ r ∈ es, isEK r
  o : okx 8 (.list es) = true
theorem ne_nil {es : List PyData} : PyData.eqv (.list es) (.list []) = es.isEmpty := by
  cases es <;> simp [PyData.eqv, PyData.eqvAll]
theorem es_ix {es : List PyData} (hne : es ≠ []) {d : Int} (h0 : 0 ≤ d) : ∃ r, atI es (d % (es.length : Int)) = some r ∧ r ∈ es := by
  have hl : 0 < es.length := List.length_pos_iff.mpr hne
  have h1 : 0 ≤ d % (es.length : Int) := Int.emod_nonneg _ (by omega)
  have h2 : d % (es.length : Int) < es.length := Int.emod_lt_of_pos _ (by omega)
  exact lit_ix h1 (by omega)
section
variable {P : Program} {w : World} {K : PySem.W.Frag} {mg : Str → Option Value} {base : Heap}
theorem ok__law_transaction (T : TX K mg w) : FnOk P w K mg base CX0 4 T.a__law_transaction T.d__law_transaction ["entries", "draws"] (spP K (P2 fun e d => (∃ es, e = .list es ∧ GoodE es) ∧ DrL 106 d) (Q2 fun _ _ y => ∃ c p d, y = .tuple [.tuple c, .tuple p, .tuple d] ∧ GoodT c p d)) := by
  refine okP T.F__law_transaction sc__law_transaction 10 rfl P2.len fun cdv A outer s H E hr => ⟨_, (pss_cons (ps_set (i := 2) sc__law_transaction.nd rfl (Or.inl rfl) (pe_tup pa_nil))
      (pss_cons (ps_set (i := 3) sc__law_transaction.nd rfl (Or.inl rfl) (pe_tup pa_nil))
      (pss_cons (ps_set (i := 4) sc__law_transaction.nd rfl (Or.inl rfl) (pe_lst pa_nil))
      (pss_cons (ps_for PassesOwn.never rfl (pi_range1 (by rfl) T.n_range (pa_cons (pe_op op_mod (pe_callTy call_intN (by rfl) T.n_int (by decide +kernel) (pa_cons (pe_ix (ixK_list (K := K) rfl) (pv 1) pe_int (fun _ _ => rfl)) pa_nil)) pe_int) pa_nil)) (pg_name (i := 5) sc__law_transaction.nd rfl (Or.inl rfl))
        (pss_cons (ps_set (i := 6) sc__law_transaction.nd rfl (Or.inl rfl) (pe_slice (slKx_list (K := K) rfl) (pv 1) (po_some (pe_op op_add pe_int (pe_op op_mul pe_int (pv 5)))) (po_some (pe_op op_add pe_int (pe_op op_mul pe_int (pv 5))))))
        (pss_cons (ps_asg (pe_call (ok__law_key T) (hr.mono (by decide)) (by rfl) T.g__law_key T.F__law_key.kp T.b__law_key .nil pass0 (pa_cons (pv 6) pa_nil)) (pgK_tup (K := K) (n := 2) rfl rfl (pgs_cons (pg_name (i := 7) sc__law_transaction.nd rfl (Or.inl rfl)) (pgs_cons (pg_name (i := 8) sc__law_transaction.nd rfl (Or.inl rfl)) pgs_nil))))
        (pss_cons (ps_if (PW.pt (pw_and (pt_cmpR (opK_neD (K := K) rfl hr.units) (pv 0) (pe_lst pa_nil) (nomark _)) (pw_and1 (pt_cmpR op_eq (pe_op op_mod (pe_ix (ixK_list (K := K) rfl) (pv 6) pe_int (fun _ _ => rfl)) pe_int) pe_int (nomark _))))) (pss_one (ps_asg (pe_slice (slK_tupA (K := K) rfl) (pe_ix (ixK_list (K := K) rfl) (pv 0) (pe_op op_mod (pe_callTy call_intN (by rfl) T.n_int (by decide +kernel) (pa_cons (pe_ix (ixK_list (K := K) rfl) (pv 6) pe_int (fun _ _ => rfl)) pa_nil)) (pe_callB (callK_len (K := K) rfl) (by rfl) T.n_len PySem.boot_len (pa_cons (pv 0) pa_nil))) (fun _ _ => rfl)) po_none (po_some pe_int)) (pgK_tup (K := K) (n := 2) rfl rfl (pgs_cons (pg_name (i := 7) sc__law_transaction.nd rfl (Or.inl rfl)) (pgs_cons (pg_name (i := 8) sc__law_transaction.nd rfl (Or.inl rfl)) pgs_nil))))) pss_nil)
        (pss_one (ps_if (pt_cmpR (opK_notInD (K := K) rfl (hu65 hr)) (pe_tup (pa_cons (pv 7) (pa_cons (pv 8) pa_nil))) (pv 4) rfl) (pss_cons (ps_expr (peK_bm (K := K) rfl PySem.F.plainAttrs_list PySem.F.slot_list_append PySem.F.type_list_append mt_append (pv 4) (pa_cons (pe_tup (pa_cons (pv 7) (pa_cons (pv 8) pa_nil))) pa_nil)))
          (pss_one (ps_if (pt_cmpR op_eq (pe_op op_mod (pe_ix (ixK_list (K := K) rfl) (pv 6) pe_int (fun _ _ => rfl)) pe_int) pe_int (nomark _)) (pss_one (ps_set (i := 3) sc__law_transaction.nd rfl (Or.inl rfl) (pe_op (opK_catA (K := K) rfl) (pv 3) (pe_tup (pa_cons (pe_tup (pa_cons (pv 7) (pa_cons (pv 8) pa_nil))) pa_nil))))) (pss_one (ps_set (i := 2) sc__law_transaction.nd rfl (Or.inl rfl) (pe_op (opK_catA (K := K) rfl) (pv 2) (pe_tup (pa_cons (pe_tup (pa_cons (pv 7) (pa_cons (pv 8) (pa_cons (pe_call (ok__law_worth T) (hr.mono (by decide)) (by rfl) T.g__law_worth T.F__law_worth.kp T.b__law_worth .nil pass0 (pa_cons (pv 7) (pa_cons (pe_slice (slKx_list (K := K) rfl) (pv 6) (po_some pe_int) po_none) pa_nil))) pa_nil)))) pa_nil)))))))) pss_nil))))))
      (pss_cons (ps_set (i := 9) sc__law_transaction.nd rfl (Or.inl rfl) (pe_tup pa_nil))
      (pss_cons (ps_for PassesOwn.never rfl (pi_range1 (by rfl) T.n_range (pa_cons (pe_op op_mod (pe_callTy call_intN (by rfl) T.n_int (by decide +kernel) (pa_cons (pe_ix (ixK_list (K := K) rfl) (pv 1) pe_int (fun _ _ => rfl)) pa_nil)) pe_int) pa_nil)) (pg_name (i := 5) sc__law_transaction.nd rfl (Or.inl rfl))
        (pss_cons (ps_set (i := 6) sc__law_transaction.nd rfl (Or.inl rfl) (pe_slice (slKx_list (K := K) rfl) (pv 1) (po_some (pe_op op_add pe_int (pe_op op_mul pe_int (pv 5)))) (po_some (pe_op op_add pe_int (pe_op op_mul pe_int (pv 5))))))
        (pss_cons (ps_asg (pe_call (ok__law_key T) (hr.mono (by decide)) (by rfl) T.g__law_key T.F__law_key.kp T.b__law_key .nil pass0 (pa_cons (pv 6) pa_nil)) (pgK_tup (K := K) (n := 2) rfl rfl (pgs_cons (pg_name (i := 7) sc__law_transaction.nd rfl (Or.inl rfl)) (pgs_cons (pg_name (i := 8) sc__law_transaction.nd rfl (Or.inl rfl)) pgs_nil))))
        (pss_cons (ps_if (PW.pt (pw_and (pt_cmpR (opK_neD (K := K) rfl hr.units) (pv 0) (pe_lst pa_nil) (nomark _)) (pw_and1 (pt_cmpR op_gt (pe_op op_mod (pe_ix (ixK_list (K := K) rfl) (pv 6) pe_int (fun _ _ => rfl)) pe_int) pe_int (nomark _))))) (pss_one (ps_asg (pe_slice (slK_tupA (K := K) rfl) (pe_ix (ixK_list (K := K) rfl) (pv 0) (pe_op op_mod (pe_callTy call_intN (by rfl) T.n_int (by decide +kernel) (pa_cons (pe_ix (ixK_list (K := K) rfl) (pv 6) pe_int (fun _ _ => rfl)) pa_nil)) (pe_callB (callK_len (K := K) rfl) (by rfl) T.n_len PySem.boot_len (pa_cons (pv 0) pa_nil))) (fun _ _ => rfl)) po_none (po_some pe_int)) (pgK_tup (K := K) (n := 2) rfl rfl (pgs_cons (pg_name (i := 7) sc__law_transaction.nd rfl (Or.inl rfl)) (pgs_cons (pg_name (i := 8) sc__law_transaction.nd rfl (Or.inl rfl)) pgs_nil))))) pss_nil)
        (pss_cons (ps_set (i := 10) sc__law_transaction.nd rfl (Or.inl rfl) (pe_call (ok__law_find T) (hr.mono (by decide)) (by rfl) T.g__law_find T.F__law_find.kp T.b__law_find .nil pass0 (pa_cons (pv 0) (pa_cons (pv 7) (pa_cons (pv 8) pa_nil)))))
        (pss_cons (ps_set (i := 11) sc__law_transaction.nd rfl (Or.inl rfl) pe_int)
        (pss_cons (ps_if (pt_cmpR op_notN1 (pv 10) pe_non (nomark _)) (pss_one (ps_set (i := 11) sc__law_transaction.nd rfl (Or.inl rfl) (pe_ix (ixK_tup (K := K) rfl) (pv 10) pe_int (fun _ _ => rfl)))) pss_nil)
        (pss_cons (ps_if (pt_cmpR op_eq (pe_op op_mod (pe_ix (ixK_list (K := K) rfl) (pv 6) pe_int (fun _ _ => rfl)) pe_int) pe_int (nomark _)) (pss_one (ps_set (i := 11) sc__law_transaction.nd rfl (Or.inl rfl) (pe_op op_mod (pe_callTy call_intN (by rfl) T.n_int (by decide +kernel) (pa_cons (pe_ix (ixK_list (K := K) rfl) (pv 6) pe_int (fun _ _ => rfl)) pa_nil)) pe_int))) pss_nil)
        (pss_one (ps_set (i := 9) sc__law_transaction.nd rfl (Or.inl rfl) (pe_op (opK_catA (K := K) rfl) (pv 9) (pe_tup (pa_cons (pe_tup (pa_cons (pv 7) (pa_cons (pv 8) (pa_cons (pv 11) pa_nil)))) pa_nil)))))))))))))
      (pss_one (ps_ret (pe_tup (pa_cons (pv 9) (pa_cons (pv 2) (pa_cons (pv 3) pa_nil)))))))))))), fun ds hd => ?_⟩
  obtain ⟨_, x, rfl, ⟨es, rfl, hE⟩, ds, rfl, hD, h5, h9⟩ := hd
  have hel := hE.l
  have heo := hE.o
  obtain ⟨d0, e0, b0⟩ := dr_ix hD (i := 0) (by omega) (by omega)
  obtain ⟨d1, e1, b1⟩ := dr_ix hD (i := 1) (by omega) (by omega)
  have hee : (PyData.list []).eqv (.list []) = true := by decide +kernel
  walk_at "pn"
  walk_at "px"
  refine ws_for ?_
  walk_at "px"
  refine ⟨List PyData × List PyData × List PyData, fun s => [.d (.list es), .d (.list (ds.map .int)), .d (.tuple s.1), .d (.tuple s.2.1), .o s.2.2, .u, .u, .u, .u, .u, .u, .u], fun _ => (), fun i s => GatherT i s.1 s.2.1 s.2.2, nxt ([], [], []) (by walk_at "wk") rfl ⟨Nat.le_refl _, Nat.le_refl _, Nat.le_refl _, rfl, rfl, .nil, (fun _ h => nomatch h), (fun _ h => nomatch h), (fun _ h => nomatch h), (fun _ h => nomatch h)⟩, fun i x s hx hI => ?_, fun s hI => ?_⟩
  · obtain ⟨hi, rfl⟩ := nums_at hx
    clear hx
    obtain ⟨p, d, ks⟩ := s
    have hI : GatherT i p d ks := hI
    have hi3 : i < 3 := by omega
    refine wg_name ?_
    walk_at "pn"
    refine ws_mid [.d (.list es), .d (.list (ds.map .int)), .d (.tuple p), .d (.tuple d), .o ks, .d (.int (0 + (i : Int))), .o (cutD (ds.map PyData.int) (some (4 + 24 * (0 + (i : Int)))) (some (28 + 24 * (0 + (i : Int))))), .u, .u, .u, .u, .u] (by walk_at "px"; exact rfl) ?_
    refine ws_freeze 6 rfl ?_
    rw [cut_at (a := 4 + 24 * i) (n := 24) (by omega) (by omega)]
    have hP : Drawn ((ds.drop (4 + 24 * i)).take 24) := drawn_take _ (drawn_drop _ hD)
    have hPl : ((ds.drop (4 + 24 * i)).take 24).length = 24 := by rw [List.length_take, List.length_drop]; omega
    generalize (ds.drop (4 + 24 * i)).take 24 = ps at hP hPl
    obtain ⟨d7, e7, b7⟩ := dr_ix hP (i := 7) (by omega) (by omega)
    obtain ⟨d8, e8, b8⟩ := dr_ix hP (i := 8) (by omega) (by omega)
    walk_at "pn"
    refine ws_seqI (Str × Str) (fun s => [.d (.list es), .d (.list (ds.map .int)), .d (.tuple p), .d (.tuple d), .o ks, .d (.int (0 + (i : Int))), .d (.list (ps.map .int)), .d (.str s.1), .d (.str s.2), .u, .u, .u]) (fun s => isKy (.str s.1) (.str s.2) = true) ?_ fun s hs => ?_
    · walk_at "px"
      refine ⟨⟨ps, rfl, hP, by omega, by omega⟩, fun y ⟨kd, nm, ey, hky, h13⟩ => ?_⟩
      subst ey
      walk_at "px"
      exact nxt (kd, nm) (by walk_at "wk") rfl hky
    obtain ⟨kd0, nm0⟩ := s
    have hs : isKy (.str kd0) (.str nm0) = true := hs
    refine ws_seqI (Str × Str) (fun s => [.d (.list es), .d (.list (ds.map .int)), .d (.tuple p), .d (.tuple d), .o ks, .d (.int (0 + (i : Int))), .d (.list (ps.map .int)), .d (.str s.1), .d (.str s.2), .u, .u, .u]) (fun s => isKy (.str s.1) (.str s.2) = true) ?_ fun s hs2 => ?_
    · walk_at "px"
      rw [ne_nil]
      cases hem : es.isEmpty with
      | true =>
        refine ⟨fun z => (by cases z), fun _ => ?_⟩
        walk_at "px"
        exact nxt (kd0, nm0) (by walk_at "wk") rfl hs
      | false =>
        refine ⟨fun _ => ?_, fun z => (by cases z)⟩
        have hne : es ≠ [] := fun z => by rw [z] at hem; cases hem
        obtain ⟨r, er, hr⟩ := es_ix hne b8.1
        obtain ⟨ra, rb, rx, ry, rc, rfl, hrk, _⟩ := hE.r r hr
        have hl0 : (0 : Int) < (es.length : Int) := by have := List.length_pos_iff.mpr hne; omega
        walk_at "px"
        refine ⟨fun _ => ?_, fun _ => ?_⟩
        · walk_at "px"
          have ec : cutD [PyData.str ra, .str rb, .int rx, .int ry, rc] none (some 2) = [.str ra, .str rb] := rfl
          rw [ec]
          walk_at "px"
          exact nxt (ra, rb) (by walk_at "wk") rfl hrk
        · walk_at "px"
          exact nxt (kd0, nm0) (by walk_at "wk") rfl hs
    obtain ⟨kd, nm⟩ := s
    have hky : isKy (.str kd) (.str nm) = true := hs2
    walk_at "px"
    have hx2 : is2S (.tuple [.str kd, .str nm]) := ⟨kd, nm, rfl⟩
    have hxo : okx 3 (.tuple [.str kd, .str nm]) = true := okx_tup_of (by simp) (by simp [(ky_okx (n := 2) (m := 2) hky).1, (ky_okx (n := 2) (m := 2) hky).2])
    have hx13 : no13 (.tuple [.str kd, .str nm]) := True.intro
    have hlk := hI.lk
    have hlp := hI.lp
    have hld := hI.ld
    refine opP_notInD rfl rfl (okx_sh (n := 8) (okx_mono (by decide) hxo)) (okx_sh (n := 8) (okx_mono (n := 4) (by decide) (okx_lst_of (by omega) hI.o))) ?_
    walk_at "px"
    walk_at "pi"
    · intro h1
      have hn : PyData.tuple [.str kd, .str nm] ∉ ks := fun h => by
        have h2 : (ks.any fun z => z.eqv (.tuple [.str kd, .str nm])) = true := List.any_eq_true.mpr ⟨_, h, eqv_self2⟩
        rw [show (ks.any fun z => z.eqv (.tuple [.str kd, .str nm])) = false from h1] at h2
        cases h2
      obtain ⟨kd', hkd, ek⟩ := isKy_kind hky
      cases ek
      walk_at "px"
      walk_at "pi"
      · intro h2
        walk_at "px"
        try (refine opP_catT (by show d.length + 1 ≤ _; omega) ?_)
        walk_at "px"
        exact nxt (p, d ++ [.tuple [.str kd, .str nm]], ks ++ [.tuple [.str kd, .str nm]]) (by walk_at "wk") rfl (hI.del hx2 hxo hx13 hn hky)
      · intro h2
        walk_at "px"
        refine ⟨⟨⟨_, hkd, rfl⟩, drL_from 8 hP (by omega) (by omega)⟩, fun y hy => ?_⟩
        obtain ⟨hf, vs, rfl⟩ := hy kd rfl
        walk_at "px"
        try (refine opP_catT (by show p.length + 1 ≤ _; omega) ?_)
        walk_at "px"
        refine nxt (p ++ [.tuple [.str kd, .str nm, .tuple vs]], d, ks ++ [.tuple [.str kd, .str nm]]) (by walk_at "wk") rfl (hI.put hx2 hxo hx13 hn ?_ rfl)
        show (isKy _ _ && (true && formOf kd _)) = true
        rw [hky, hf]; rfl
    · intro h1
      walk_at "px"
      exact nxt (p, d, ks) (by walk_at "wk") rfl hI.keep
  · obtain ⟨p, d, ks⟩ := s
    have hI : GatherT _ p d ks := hI
    have hlp := hI.lp
    have hld := hI.ld
    rw [nums_len] at hlp hld
    walk_at "px"
    refine ws_for ?_
    walk_at "px"
    refine ⟨List PyData, fun c => [.d (.list es), .d (.list (ds.map .int)), .d (.tuple p), .d (.tuple d), .u, .u, .u, .u, .u, .d (.tuple c), .u, .u], fun _ => (), fun i c => c.length ≤ i ∧ c.all isCond = true, nxt [] (by walk_at "wk") rfl ⟨Nat.le_refl _, rfl⟩, fun i x c hx hJ => ?_, fun c hJ => ?_⟩
    · obtain ⟨hi, rfl⟩ := nums_at hx
      clear hx
      obtain ⟨j1, j2⟩ := hJ
      have hi3 : i < 3 := by omega
      refine wg_name ?_
      walk_at "pn"
      refine ws_mid [.d (.list es), .d (.list (ds.map .int)), .d (.tuple p), .d (.tuple d), .u, .d (.int (0 + (i : Int))), .o (cutD (ds.map PyData.int) (some (76 + 10 * (0 + (i : Int)))) (some (86 + 10 * (0 + (i : Int))))), .u, .u, .d (.tuple c), .u, .u] (by walk_at "px"; exact rfl) ?_
      refine ws_freeze 6 rfl ?_
      rw [cut_at (a := 76 + 10 * i) (n := 10) (by omega) (by omega)]
      have hP : Drawn ((ds.drop (76 + 10 * i)).take 10) := drawn_take _ (drawn_drop _ hD)
      have hPl : ((ds.drop (76 + 10 * i)).take 10).length = 10 := by rw [List.length_take, List.length_drop]; omega
      generalize (ds.drop (76 + 10 * i)).take 10 = ps at hP hPl
      obtain ⟨d7, e7, b7⟩ := dr_ix hP (i := 7) (by omega) (by omega)
      obtain ⟨d6, e6, b6⟩ := dr_ix hP (i := 6) (by omega) (by omega)
      obtain ⟨d5, e5, b5⟩ := dr_ix hP (i := 5) (by omega) (by omega)
      obtain ⟨d8, e8, b8⟩ := dr_ix hP (i := 8) (by omega) (by omega)
      walk_at "pn"
      refine ws_seqI (Str × Str) (fun s => [.d (.list es), .d (.list (ds.map .int)), .d (.tuple p), .d (.tuple d), .u, .d (.int (0 + (i : Int))), .d (.list (ps.map .int)), .d (.str s.1), .d (.str s.2), .d (.tuple c), .u, .u]) (fun s => isKy (.str s.1) (.str s.2) = true) ?_ fun s hs => ?_
      · walk_at "px"
        refine ⟨⟨ps, rfl, hP, by omega, by omega⟩, fun y ⟨kd, nm, ey, hky, h13⟩ => ?_⟩
        subst ey
        walk_at "px"
        exact nxt (kd, nm) (by walk_at "wk") rfl hky
      obtain ⟨kd0, nm0⟩ := s
      have hs : isKy (.str kd0) (.str nm0) = true := hs
      refine ws_seqI (Str × Str) (fun s => [.d (.list es), .d (.list (ds.map .int)), .d (.tuple p), .d (.tuple d), .u, .d (.int (0 + (i : Int))), .d (.list (ps.map .int)), .d (.str s.1), .d (.str s.2), .d (.tuple c), .u, .u]) (fun s => isKy (.str s.1) (.str s.2) = true) ?_ fun s hs2 => ?_
      · walk_at "px"
        rw [ne_nil]
        cases hem : es.isEmpty with
        | true =>
          refine ⟨fun z => (by cases z), fun _ => ?_⟩
          walk_at "px"
          exact nxt (kd0, nm0) (by walk_at "wk") rfl hs
        | false =>
          refine ⟨fun _ => ?_, fun z => (by cases z)⟩
          have hne : es ≠ [] := fun z => by rw [z] at hem; cases hem
          obtain ⟨r, er, hr⟩ := es_ix hne b8.1
          obtain ⟨ra, rb, rx, ry, rc, rfl, hrk, _⟩ := hE.r r hr
          have hl0 : (0 : Int) < (es.length : Int) := by have := List.length_pos_iff.mpr hne; omega
          walk_at "px"
          refine ⟨fun _ => ?_, fun _ => ?_⟩
          · walk_at "px"
            have ec : cutD [PyData.str ra, .str rb, .int rx, .int ry, rc] none (some 2) = [.str ra, .str rb] := rfl
            rw [ec]
            walk_at "px"
            exact nxt (ra, rb) (by walk_at "wk") rfl hrk
          · walk_at "px"
            exact nxt (kd0, nm0) (by walk_at "wk") rfl hs
      obtain ⟨kd, nm⟩ := s
      have hky : isKy (.str kd) (.str nm) = true := hs2
      have hrow : ∀ r ∈ es, isRow r := fun r hr => (hE.r r hr).ent.row
      refine ws_mid [.d (.list es), .d (.list (ds.map .int)), .d (.tuple p), .d (.tuple d), .u, .d (.int (0 + (i : Int))), .d (.list (ps.map .int)), .d (.str kd), .d (.str nm), .d (.tuple c), .d ((findR es [.inr kd, .inr nm]).getD .none), .u] ?_ ?_
      · walk_at "px"
        refine we_callP ?_
        walk_at "px"
        refine ⟨⟨_, _, _, rfl, es, kd, nm, ⟨rfl, by omega, hrow⟩, rfl, rfl⟩, fun r hr2 => ?_⟩
        obtain rfl := hr2 _ _ _ rfl
        exact ⟨rfl, rfl⟩
      refine ws_mid [.d (.list es), .d (.list (ds.map .int)), .d (.tuple p), .d (.tuple d), .u, .d (.int (0 + (i : Int))), .d (.list (ps.map .int)), .d (.str kd), .d (.str nm), .d (.tuple c), .d ((findR es [.inr kd, .inr nm]).getD .none), .d (.int 0)] (by walk_at "px"; rfl) ?_
      refine ws_seqI Int (fun r => [.d (.list es), .d (.list (ds.map .int)), .d (.tuple p), .d (.tuple d), .u, .d (.int (0 + (i : Int))), .d (.list (ps.map .int)), .d (.str kd), .d (.str nm), .d (.tuple c), .u, .d (.int r)]) (fun r => 0 ≤ r ∧ r ≤ 100000) ?_ fun r hr => ?_
      · cases hf : findR es [.inr kd, .inr nm] with
        | none =>
          dsimp only [Option.getD]
          walk_at "px"
          exact nxt 0 (by walk_at "wk") rfl (by omega)
        | some r =>
          obtain ⟨a, b, x, y, z, rfl, _, g1, g2⟩ := hE.r r (findR_mem hf)
          dsimp only [Option.getD]
          walk_at "px"
          exact nxt y (by walk_at "wk") rfl ⟨g1, g2⟩
      refine ws_seqI Int (fun r => [.d (.list es), .d (.list (ds.map .int)), .d (.tuple p), .d (.tuple d), .u, .d (.int (0 + (i : Int))), .d (.list (ps.map .int)), .d (.str kd), .d (.str nm), .d (.tuple c), .u, .d (.int r)]) (fun r => 0 ≤ r ∧ r ≤ 100000) ?_ fun r hr => ?_
      · walk_at "px"
        refine ⟨fun _ => ?_, fun _ => ?_⟩
        · walk_at "px"
          exact nxt (d5 % 12) (by walk_at "wk") rfl (by omega)
        · walk_at "px"
          exact nxt r (by walk_at "wk") rfl hr
      walk_at "px"
      try (refine opP_catT (by show c.length + 1 ≤ _; omega) ?_)
      walk_at "px"
      refine nxt (c ++ [.tuple [.str kd, .str nm, .int r]]) (by walk_at "wk") rfl ⟨by rw [List.length_append]; exact Nat.succ_le_succ j1, ?_⟩
      rw [List.all_append, j2]
      show (true && ((isKy _ _ && intIn (.int r) 0 1000000000000) && true)) = true
      rw [hky, in_dec (by omega)]; rfl
    · obtain ⟨j1, j2⟩ := hJ
      rw [nums_len] at j1
      walk_at "px"
      exact q2d ⟨c, p, d, rfl, by omega, by omega, by omega, j2, hI.ap, hI.ad, hI.k, hI.n⟩
end
/-! # the store's history -/
theorem putRow_ents {tab : Tab} (h : TabOk tab) {rev : Int} {p : PyData} (hp : isP3 p) : putRow rev (entsD tab) p = entsD (put1 rev tab p) ∧ TabOk (put1 rev tab p) := by
  obtain ⟨k, n, v, rfl⟩ := hp
  have hb : ∃ b : Int, bornR (entsD tab) [.inr k, .inr n] rev = .int b ∧ bornOf tab [.inr k, .inr n] rev = .int b := by
    unfold bornR bornOf
    rw [find_ents h]
    cases hq : lkD tab [.inr k, .inr n] with
    | none => exact ⟨rev, rfl, rfl⟩
    | some d =>
      obtain ⟨b, u, c, e⟩ := h.v _ (mem_lk hq)
      have e : d = .tuple [.int b, .int u, c] := e
      subst e
      exact ⟨b, rfl, rfl⟩
  obtain ⟨b, e1, e2⟩ := hb
  have e3 : put1 rev tab (.tuple [.str k, .str n, v]) = putD tab [.inr k, .inr n] (.tuple [.int b, .int rev, v]) := by
    show putD tab _ (.tuple [bornOf tab _ rev, _, v]) = _
    rw [e2]
  rw [e3]
  refine ⟨?_, tab_put h⟩
  rw [← ents_put h]
  show placeD (entsD tab) (.tuple [.str k, .str n, bornR (entsD tab) [.inr k, .inr n] rev, .int rev, v]) = _
  rw [e1]
theorem putAll_ents {rev : Int} : ∀ {ps : List PyData} {tab : Tab}, TabOk tab → (∀ p ∈ ps, isP3 p) → ps.foldl (putRow rev) (entsD tab) = entsD (putAll rev tab ps) ∧ TabOk (putAll rev tab ps)
  | [], _, h, _ => ⟨rfl, h⟩
  | p :: ps, tab, h, hp => by
    obtain ⟨e, h2⟩ := putRow_ents h (rev := rev) (hp p List.mem_cons_self)
    rw [List.foldl_cons, e]
    exact putAll_ents h2 fun q hq => hp q (List.mem_cons_of_mem _ hq)
theorem delAll_ents : ∀ {dl : List PyData} {tab : Tab}, TabOk tab → dl.foldl delRow (entsD tab) = entsD (delAll tab dl) ∧ TabOk (delAll tab dl)
  | [], _, h => ⟨rfl, h⟩
  | d :: dl, tab, h => by
    have e : delRow (entsD tab) d = entsD (dropD tab (keyOf d)) := ents_drop h
    rw [List.foldl_cons, e]
    exact delAll_ents (tab_drop h)
theorem done_ents {tab : Tab} (h : TabOk tab) {rev : Int} {ps dl : List PyData} (hp : ∀ p ∈ ps, isP3 p) : doneR (entsD tab) rev ps dl = entsD (delAll (putAll rev tab ps) dl) ∧ TabOk (delAll (putAll rev tab ps) dl) := by
  obtain ⟨e, h2⟩ := putAll_ents (rev := rev) h hp
  unfold doneR
  rw [e]
  exact delAll_ents h2
/-- tables that answer the same -/
def Same2 (a b : Tab) : Prop := ∀ k, lkD a k = lkD b k
theorem ents_ext {a b : Tab} (ha : TabOk a) (hb : TabOk b) (h : Same2 a b) : entsD a = entsD b := by
  refine asc_ext (ents_asc ha) (ents_asc hb) fun r => ?_
  rw [mem_ents ha, mem_ents hb]
  constructor
  · rintro ⟨k, d, e, rfl⟩; exact ⟨k, d, by rw [← h k]; exact e, rfl⟩
  · rintro ⟨k, d, e, rfl⟩; exact ⟨k, d, by rw [h k]; exact e, rfl⟩
theorem lk_put1 {rev : Int} {tab : Tab} {x y : Str} {v : PyData} {j : List Key} : lkD (put1 rev tab (.tuple [.str x, .str y, v])) j = if j = [.inr x, .inr y] then some (.tuple [bornOf tab [.inr x, .inr y] rev, .int rev, v]) else lkD tab j := lk_put
theorem born_same {a b : Tab} (h : Same2 a b) {k : List Key} {rev : Int} : bornOf a k rev = bornOf b k rev := by unfold bornOf; rw [h k]
theorem put1_same {a b : Tab} (h : Same2 a b) {rev : Int} {p : PyData} (hp : isP3 p) : Same2 (put1 rev a p) (put1 rev b p) := fun j => by
  obtain ⟨k, n, v, rfl⟩ := hp
  rw [lk_put1, lk_put1, born_same h, h j]
theorem put1_swap {tab : Tab} {rev : Int} {p q : PyData} (hp : isP3 p) (hq : isP3 q) (hne : kR p ≠ kR q) : Same2 (put1 rev (put1 rev tab p) q) (put1 rev (put1 rev tab q) p) := fun j => by
  obtain ⟨k, n, v, rfl⟩ := hp
  obtain ⟨k', n', v', rfl⟩ := hq
  have hne : ¬ ([.inr k, .inr n] : List Key) = [.inr k', .inr n'] := hne
  have b1 : bornOf (put1 rev tab (.tuple [.str k, .str n, v])) [.inr k', .inr n'] rev = bornOf tab [.inr k', .inr n'] rev := by
    unfold bornOf; rw [lk_put1, if_neg fun z => hne z.symm]
  have b2 : bornOf (put1 rev tab (.tuple [.str k', .str n', v'])) [.inr k, .inr n] rev = bornOf tab [.inr k, .inr n] rev := by
    unfold bornOf; rw [lk_put1, if_neg hne]
  rw [lk_put1, lk_put1, lk_put1, lk_put1, b1, b2]
  by_cases e1 : j = [.inr k, .inr n]
  · rw [if_pos e1, if_pos e1, if_neg (by rw [e1]; exact hne)]
  · rw [if_neg e1, if_neg e1]
theorem putAll_same {rev : Int} {a b : Tab} (h : Same2 a b) : ∀ {ps : List PyData}, (∀ p ∈ ps, isP3 p) → Same2 (putAll rev a ps) (putAll rev b ps)
  | [], _ => h
  | p :: ps, hp => putAll_same (ps := ps) (put1_same h (hp p List.mem_cons_self)) fun q hq => hp q (List.mem_cons_of_mem _ hq)
theorem putAll_perm {rev : Int} {ps qs : List PyData} (h : ps.Perm qs) : ∀ {tab : Tab}, (∀ p ∈ ps, isP3 p) → (ps.map kR).Nodup → Same2 (putAll rev tab ps) (putAll rev tab qs) := by
  induction h with
  | nil => exact fun _ _ _ => rfl
  | cons x h ih =>
    intro tab hp hn
    exact ih (tab := put1 rev tab x) (fun q hq => hp q (List.mem_cons_of_mem _ hq)) (List.nodup_cons.mp hn).2
  | swap x y l =>
    intro tab hp hn
    rw [List.map_cons, List.map_cons, List.nodup_cons] at hn
    have hne : kR y ≠ kR x := fun e => hn.1 (by rw [e]; exact List.mem_cons_self)
    exact putAll_same (put1_swap (hp y (by simp)) (hp x (by simp)) hne) fun q hq => hp q (by simp [hq])
  | trans h1 h2 ih1 ih2 =>
    intro tab hp hn k
    rw [ih1 hp hn k, ih2 (fun q hq => hp q (h1.mem_iff.mpr hq)) ((h1.map kR).nodup_iff.mp hn) k]
open Classical in
theorem lk_delA {k : List Key} : ∀ {dl : List PyData} {tab : Tab}, lkD (delAll tab dl) k = if k ∈ dl.map keyOf then none else lkD tab k
  | [], _ => by simp [delAll]
  | d :: dl, tab => by
    show lkD (delAll (dropD tab (keyOf d)) dl) k = _
    rw [lk_delA, lk_drop, List.map_cons]
    by_cases e : k ∈ dl.map keyOf
    · rw [if_pos e, if_pos (List.mem_cons_of_mem _ e)]
    · rw [if_neg e]
      by_cases e2 : k = keyOf d
      · rw [if_pos e2, if_pos (by rw [e2]; exact List.mem_cons_self)]
      · rw [if_neg e2, if_neg (by rw [List.mem_cons, not_or]; exact ⟨e2, e⟩)]
open Classical in
theorem delAll_same {a b : Tab} (h : Same2 a b) {dl el : List PyData} (he : ∀ x, x ∈ dl ↔ x ∈ el) : Same2 (delAll a dl) (delAll b el) := fun k => by
  rw [lk_delA, lk_delA, h k]
  have : k ∈ dl.map keyOf ↔ k ∈ el.map keyOf := by simp only [List.mem_map, he]
  by_cases e : k ∈ dl.map keyOf
  · rw [if_pos e, if_pos (this.mp e)]
  · rw [if_neg e, if_neg fun z => e (this.mpr z)]
/-- what the law plays is what the store did -/
theorem play_ents {tab : Tab} (h : TabOk tab) {rev : Int} {ps dl : List PyData} (hp : ∀ p ∈ ps, isP3 p) (hn : (ps.map kR).Nodup) : doneR (entsD tab) rev (sortD ps) (sortD dl) = entsD (delAll (putAll rev tab ps) dl) := by
  have hp2 : ∀ p ∈ sortD ps, isP3 p := fun p hq => hp p (mem_sortD.mp hq)
  obtain ⟨e1, t1⟩ := done_ents h (rev := rev) (dl := sortD dl) hp2
  obtain ⟨e2, t2⟩ := done_ents h (rev := rev) (dl := dl) hp
  rw [e1]
  refine ents_ext t1 t2 (delAll_same (fun k => ?_) fun x => mem_sortD)
  exact (putAll_perm (List.mergeSort_perm ps _).symm (tab := tab) (rev := rev) hp hn k).symm
theorem put2_key {p : PyData} (h : isP3 p) : kR p = keyOf (put2 p) := by obtain ⟨k, n, v, rfl⟩ := h; rfl
theorem GoodT.p3 {c p d : List PyData} (h : GoodT c p d) : ∀ x ∈ p, isP3 x := fun x hx => put_3 (List.all_eq_true.mp h.ap x hx)
theorem GoodT.nd {c p d : List PyData} (h : GoodT c p d) : (p.map kR).Nodup := by
  have h1 := h.k
  rw [List.map_append] at h1
  have h2 := (List.nodup_append.mp h1).1
  rw [List.map_map] at h2
  have e : p.map kR = p.map (keyOf ∘ put2) := List.map_congr_left fun x hx => put2_key (h.p3 x hx)
  rw [e]; exact h2
theorem GoodT.isT {c p d : List PyData} (h : GoodT c p d) : isTrans (.tuple [.tuple c, .tuple p, .tuple d]) = true := by
  have l1 := h.lc
  have l2 := h.lp
  have l3 := h.ld
  unfold isTrans
  simp only [Bool.and_eq_true, decide_eq_true_iff]
  exact ⟨by omega, by omega, by omega, h.ac, h.ap, h.ad, decide_eq_true h.k⟩
theorem GoodT.ok8 {c p d : List PyData} (h : GoodT c p d) : okx 8 (.tuple [.tuple c, .tuple p, .tuple d]) = true := by
  have l1 := h.lc
  have l2 := h.lp
  have l3 := h.ld
  refine okx_tupJ (by show 3 ≤ 1000; omega) fun z hz => ?_
  simp only [List.mem_cons, List.not_mem_nil, or_false] at hz
  rcases hz with rfl | rfl | rfl
  · exact okx_tupJ (by omega) fun x hx => okx_mono (n := 5) (by omega) (cond_okx (List.all_eq_true.mp h.ac x hx))
  · exact okx_tupJ (by omega) fun x hx => okx_mono (n := 5) (by omega) (put_okx (List.all_eq_true.mp h.ap x hx))
  · exact okx_tupJ (by omega) fun x hx => okx_mono (n := 5) (by omega) (del_okx (List.all_eq_true.mp h.ad x hx))
theorem SI.goodE {m : SM} (h : SI m) (hr : m.rev ≤ 2000) : GoodE (entsD m.tab) where
  l := by rw [ents_len]; have := h.tl; have := h.r0; omega
  r := fun r hr2 => by
    obtain ⟨x, y, b, v, c, rfl, _, h1, _, h2, h3, h4⟩ := h.row hr2
    exact ⟨x, y, b, v, c, rfl, ((Bool.and_eq_true _ _).mp h1).1, by omega, by omega⟩
  o := h.okE (by omega)
/-- a change leads from entries to entries -/
def StepOk (E E' : List PyData) (n : Int) (c : PyData) : Prop := ∃ ps dl, c = .tuple [.int n, .tuple ps, .tuple dl] ∧ ps.length ≤ 12 ∧ dl.length ≤ 12 ∧ (∀ p ∈ ps, isP3 p) ∧ (∀ d ∈ dl, is2S d) ∧ E' = doneR E n ps dl
structure Hist (m : SM) (past : List (List PyData)) : Prop where
  si : SI m
  rv : m.rev ≤ 2000
  l : past.length = m.rev.toNat + 1
  c : m.chs.length = m.rev.toNat
  old : m.old = 0
  e : ∀ E ∈ past, GoodE E
  st : ∀ (i : Nat) (E E' : List PyData) (c : PyData), past[i]? = some E → past[i + 1]? = some E' → m.chs[i]? = some c → StepOk E E' ((i : Int) + 1) c
  lst : past[m.rev.toNat]? = some (entsD m.tab)
theorem Hist.zero {s t c : Addr} : Hist (sm0 s t c) [[]] where
  si := SI.zero
  rv := by show (0 : Int) ≤ 2000; decide
  l := rfl
  c := rfl
  old := rfl
  e := fun E hE => by
    rw [List.mem_singleton] at hE
    subst hE
    exact ⟨by simp, fun r hr => (by cases hr), rfl⟩
  st := fun i E E' c h1 h2 h3 => by cases h3
  lst := by show some [] = some (entsD []); unfold entsD srtT; simp [srtK]
theorem sortD_len {ps : List PyData} : (sortD ps).length = ps.length := (List.mergeSort_perm ps _).length_eq
theorem Hist.chg {m : SM} {past : List (List PyData)} (h : Hist m past) (hr : m.rev < 2000) {c p d : List PyData} (g : GoodT c p d) : Hist (chg m p d) (past ++ [entsD (chg m p d).tab]) := by
  have hs := h.si.chg g.isT g.ok8
  have r0 := h.si.r0
  have e1 : (m.rev + 1).toNat = m.rev.toNat + 1 := by omega
  refine ⟨hs, by show m.rev + 1 ≤ 2000; omega, ?_, ?_, h.old, fun E hE => ?_, fun i E E' x h1 h2 h3 => ?_, ?_⟩
  · show (past ++ [_]).length = (m.rev + 1).toNat + 1
    rw [List.length_append, h.l, e1]; rfl
  · show (m.chs ++ [_]).length = (m.rev + 1).toNat
    rw [List.length_append, h.c, e1]; rfl
  · rcases List.mem_append.mp hE with hE | hE
    · exact h.e E hE
    · rw [List.mem_singleton] at hE
      subst hE
      exact hs.goodE (by show m.rev + 1 ≤ 2000; omega)
  · have h3 : (m.chs ++ [_])[i]? = some x := h3
    have hl := h.l
    have hc := h.c
    by_cases hi : i < m.rev.toNat
    · rw [List.getElem?_append_left (by omega)] at h1 h2 h3
      exact h.st i E E' x h1 h2 h3
    · have hi2 := (List.getElem?_eq_some_iff.mp h2).1
      rw [List.length_append, hl] at hi2
      have hi2 : i + 1 < m.rev.toNat + 1 + 1 := hi2
      obtain rfl : i = m.rev.toNat := by omega
      rw [List.getElem?_append_left (by omega), h.lst] at h1
      rw [List.getElem?_append_right (by omega), hl] at h2
      rw [List.getElem?_append_right (by omega), hc] at h3
      rw [Nat.sub_self] at h2 h3
      cases h1
      cases h2
      cases h3
      have l2 := g.lp
      have l3 := g.ld
      refine ⟨sortD p, sortD d, ?_, by rw [sortD_len]; omega, by rw [sortD_len]; omega, fun q hq => g.p3 q (mem_sortD.mp hq), fun q hq => del_2S (List.all_eq_true.mp g.ad q (mem_sortD.mp hq)), ?_⟩
      · rw [show ((m.rev.toNat : Int) + 1) = m.rev + 1 by omega]
      · rw [show ((m.rev.toNat : Int) + 1) = m.rev + 1 by omega]
        exact (play_ents h.si.tab g.p3 g.nd).symm
  · show (past ++ [_])[(m.rev + 1).toNat]? = _
    rw [e1, ← h.l, List.getElem?_append_right (Nat.le_refl _), Nat.sub_self]
    rfl
/-! # failing, change -/
def failB (es : List PyData) : PyData → Bool
  | .tuple [.str x, .str y, .int i] => match findR es [.inr x, .inr y] with
    | some (.tuple [_, _, _, .int v, _]) => decide (v = i)
    | _ => decide (i = 0)
  | _ => false
def goneB (es : List PyData) (d : PyData) : Bool := (findR es (keyOf d)).isSome
def okL (es cs dl : List PyData) : List Bool := cs.map (failB es) ++ dl.map (goneB es)
/-- the index of the first that does not hold, or -1 -/
def firstN : Nat → List Bool → Int
  | _, [] => -1
  | n, false :: _ => n
  | n, true :: bs => firstN (n + 1) bs
def firstF (bs : List Bool) : Int := firstN 0 bs
theorem firstN_app : ∀ {as bs : List Bool} {n : Nat}, as.all id = true → firstN n (as ++ bs) = firstN (n + as.length) bs
  | [], bs, n, _ => by rw [List.nil_append, List.length_nil, Nat.add_zero]
  | true :: as, bs, n, h => by
    rw [List.cons_append]
    show firstN (n + 1) (as ++ bs) = _
    rw [firstN_app (by simpa using h), List.length_cons, show n + 1 + as.length = n + (as.length + 1) by omega]
  | false :: as, bs, n, h => by cases h
theorem firstN_true : ∀ {bs : List Bool} {n : Nat}, bs.all id = true → firstN n bs = -1
  | [], _, _ => rfl
  | true :: bs, n, h => firstN_true (bs := bs) (n := n + 1) (by simpa using h)
  | false :: bs, n, h => by cases h
theorem first_hit {as bs : List Bool} (h : as.all id = true) : firstF (as ++ false :: bs) = (as.length : Int) := by
  unfold firstF
  rw [firstN_app h, Nat.zero_add]
  rfl
theorem firstN_at : ∀ {bs : List Bool} {n j : Nat}, bs[j]? = some false → (∀ i : Nat, i < j → bs[i]? ≠ some false) → firstN n bs = ((n + j : Nat) : Int)
  | [], _, _, h, _ => by simp at h
  | false :: bs, n, j, _, h2 => by
    cases j with
    | zero => rfl
    | succ j => exact absurd rfl (h2 0 (by omega))
  | true :: bs, n, j, h, h2 => by
    cases j with
    | zero => simp at h
    | succ j =>
      show firstN (n + 1) bs = _
      rw [firstN_at (bs := bs) (j := j) (by simpa using h) fun i hi => by have := h2 (i + 1) (by omega); simpa using this]
      congr 1
      omega
theorem firstF_at {bs : List Bool} {j : Nat} (h : bs[j]? = some false) (h2 : ∀ i : Nat, i < j → bs[i]? ≠ some false) : firstF bs = (j : Int) := by
  have := firstN_at (n := 0) h h2
  rw [Nat.zero_add] at this
  exact this
/-- what the law's rows say of a key is what the store says -/
theorem failB_held {m : SM} (h : SI m) {c : PyData} (hc : isCond c = true) : failB (entsD m.tab) c = holdB m.tab c := by
  obtain ⟨a, b, i, rfl⟩ := cond_3 hc
  unfold failB holdB
  dsimp only []
  rw [find_ents h.tab]
  cases hq : lkD m.tab [.inr a, .inr b] with
  | none => rfl
  | some d =>
    obtain ⟨x, v, c, rfl, _⟩ := h.ent hq
    show decide (v = i) = decide (i = v)
    exact decide_eq_decide.mpr ⟨Eq.symm, Eq.symm⟩
theorem goneB_has {m : SM} (h : SI m) {d : PyData} : goneB (entsD m.tab) d = hasB m.tab d := by
  unfold goneB hasB
  rw [find_ents h.tab, Option.isSome_map]
theorem okL_held {m : SM} (h : SI m) {cs dl : List PyData} (hc : cs.all isCond = true) : okL (entsD m.tab) cs dl = heldL m.tab cs dl := by
  unfold okL heldL
  rw [List.map_congr_left fun c hcm => failB_held h (List.all_eq_true.mp hc c hcm), List.map_congr_left fun d _ => goneB_has h]
theorem ans_first {m m2 : SM} {cs ps dl : List PyData} {r : Rk} (h : SI m) (hc : cs.all isCond = true) (ha : Ans m cs ps dl r m2) :
    (firstF (okL (entsD m.tab) cs dl) < 0 → m2 = newSt m ps dl ∧ r = .d (.tuple [.str "done", .int m2.rev])) ∧ (¬ firstF (okL (entsD m.tab) cs dl) < 0 → m2 = m ∧ r = .d (.tuple [.str "no", .int (firstF (okL (entsD m.tab) cs dl))])) := by
  rw [okL_held h hc]
  cases hb : (heldL m.tab cs dl).all id with
  | true =>
    have e : firstF (heldL m.tab cs dl) = -1 := firstN_true hb
    rw [e]
    exact ⟨fun _ => ha.1 hb, fun z => absurd (by decide) z⟩
  | false =>
    obtain ⟨em, j, er, h1, h2⟩ := ha.2 hb
    rw [firstF_at h1 h2]
    exact ⟨fun z => absurd z (by omega), fun _ => ⟨em, er⟩⟩
theorem take_split {α : Type} {xs : List α} {i : Nat} {x : α} (h : xs[i]? = some x) : xs = xs.take i ++ x :: xs.drop (i + 1) := by
  have h1 := (List.getElem?_eq_some_iff.mp h)
  have e : x :: xs.drop (i + 1) = xs.drop i := by rw [List.drop_eq_getElem_cons h1.1, h1.2]
  rw [e, List.take_append_drop]
theorem okL_c {es cs dl : List PyData} {i : Nat} {c : PyData} (hx : cs[i]? = some c) (hf : failB es c = false) (ha : (cs.take i).all (failB es) = true) : firstF (okL es cs dl) = (i : Int) := by
  have hl := (List.getElem?_eq_some_iff.mp hx).1
  have e : okL es cs dl = (cs.take i).map (failB es) ++ false :: ((cs.drop (i + 1)).map (failB es) ++ dl.map (goneB es)) := by
    have e1 : cs.map (failB es) = (cs.take i ++ c :: cs.drop (i + 1)).map (failB es) := congrArg _ (take_split hx)
    unfold okL
    rw [e1, List.map_append, List.map_cons, hf, List.append_assoc, List.cons_append]
  rw [e, first_hit (by rw [List.all_map]; exact ha), List.length_map, List.length_take, Nat.min_eq_left (by omega)]
theorem okL_d {es cs dl : List PyData} {i : Nat} {d : PyData} (hc : cs.all (failB es) = true) (hx : dl[i]? = some d) (hf : goneB es d = false) (ha : (dl.take i).all (goneB es) = true) : firstF (okL es cs dl) = ((cs.length + i : Nat) : Int) := by
  have hl := (List.getElem?_eq_some_iff.mp hx).1
  have e : okL es cs dl = (cs.map (failB es) ++ (dl.take i).map (goneB es)) ++ false :: (dl.drop (i + 1)).map (goneB es) := by
    have e1 : dl.map (goneB es) = (dl.take i ++ d :: dl.drop (i + 1)).map (goneB es) := congrArg _ (take_split hx)
    unfold okL
    rw [e1, List.map_append, List.map_cons, hf, List.append_assoc]
  rw [e, first_hit (by rw [List.all_append, List.all_map, List.all_map, Bool.and_eq_true]; exact ⟨hc, ha⟩), List.length_append, List.length_map, List.length_map, List.length_take, Nat.min_eq_left (by omega)]
theorem okL_t {es cs dl : List PyData} (hc : cs.all (failB es) = true) (hd : dl.all (goneB es) = true) : firstF (okL es cs dl) = -1 := by
  unfold okL
  exact firstN_true (by rw [List.all_append, List.all_map, List.all_map, Bool.and_eq_true]; exact ⟨hc, hd⟩)
theorem GoodT.ndd {c p d : List PyData} (h : GoodT c p d) : (d.map kR).Nodup := by
  have h1 := h.k
  rw [List.map_append] at h1
  have h2 := (List.nodup_append.mp h1).2.1
  have e : d.map kR = d.map keyOf := List.map_congr_left fun x hx => by
    obtain ⟨a, b, rfl⟩ := del_2S (List.all_eq_true.mp h.ad x hx); rfl
  rw [e]; exact h2
section
variable {P : Program} {w : World} {K : PySem.W.Frag} {mg : Str → Option Value} {base : Heap}
theorem ok__law_failing (T : TX K mg w) : FnOk P w K mg base CX0 2 T.a__law_failing T.d__law_failing ["entries", "transaction"] (spP K (P2 fun e t => ∃ es c p d, e = .list es ∧ GoodE es ∧ t = .tuple [.tuple c, .tuple p, .tuple d] ∧ GoodT c p d) (fun as r => ∀ es c p d, as = [.list es, .tuple [.tuple c, .tuple p, .tuple d]] → r = .d (.int (firstF (okL es c d))))) := by
  refine okP T.F__law_failing sc__law_failing 5 rfl P2.len fun cdv A outer s H E hr => ⟨_, (pss_cons (ps_set (i := 2) sc__law_failing.nd rfl (Or.inl rfl) pe_int)
      (pss_cons (ps_for PassesOwn.never rfl (piK_tup (K := K) rfl (pe_ix (ixK_tup (K := K) rfl) (pv 1) pe_int (fun _ _ => rfl))) (pgK_tup (K := K) (n := 3) rfl rfl (pgs_cons (pg_name (i := 3) sc__law_failing.nd rfl (Or.inl rfl)) (pgs_cons (pg_name (i := 4) sc__law_failing.nd rfl (Or.inl rfl)) (pgs_cons (pg_name (i := 5) sc__law_failing.nd rfl (Or.inl rfl)) pgs_nil))))
        (pss_cons (ps_set (i := 6) sc__law_failing.nd rfl (Or.inl rfl) (pe_call (ok__law_find T) (hr.mono (by decide)) (by rfl) T.g__law_find T.F__law_find.kp T.b__law_find .nil pass0 (pa_cons (pv 0) (pa_cons (pv 3) (pa_cons (pv 4) pa_nil)))))
        (pss_cons (ps_if (PW.pt (pw_or (PW.pt (pw_and (pt_cmpR op_isN1 (pv 6) pe_non (nomark _)) (pw_and1 (pt_cmpR op_gt (pv 5) pe_int (nomark _))))) (pw_or1 (PW.pt (pw_and (pt_cmpR op_notN1 (pv 6) pe_non (nomark _)) (pw_and1 (pt_cmpR op_ne (pe_ix (ixK_tup (K := K) rfl) (pv 6) pe_int (fun _ _ => rfl)) (pv 5) (nomark _)))))))) (pss_one (ps_ret (pv 2))) pss_nil)
        (pss_one (ps_set (i := 2) sc__law_failing.nd rfl (Or.inl rfl) (pe_op op_add (pv 2) pe_int))))))
      (pss_cons (ps_for PassesOwn.never rfl (piK_tup (K := K) rfl (pe_ix (ixK_tup (K := K) rfl) (pv 1) pe_int (fun _ _ => rfl))) (pgK_tup (K := K) (n := 2) rfl rfl (pgs_cons (pg_name (i := 3) sc__law_failing.nd rfl (Or.inl rfl)) (pgs_cons (pg_name (i := 4) sc__law_failing.nd rfl (Or.inl rfl)) pgs_nil)))
        (pss_cons (ps_if (pt_cmpR op_isN1 (pe_call (ok__law_find T) (hr.mono (by decide)) (by rfl) T.g__law_find T.F__law_find.kp T.b__law_find .nil pass0 (pa_cons (pv 0) (pa_cons (pv 3) (pa_cons (pv 4) pa_nil)))) pe_non (nomark _)) (pss_one (ps_ret (pv 2))) pss_nil)
        (pss_one (ps_set (i := 2) sc__law_failing.nd rfl (Or.inl rfl) (pe_op op_add (pv 2) pe_int)))))
      (pss_one (ps_ret (pe_un un_neg pe_int)))))), fun ds hd => ?_⟩
  obtain ⟨_, _, rfl, es, cs, ps, dl, rfl, hE, rfl, hg⟩ := hd
  have hcl := hg.lc
  have hdl := hg.ld
  have hel := hE.l
  have hrow : ∀ r ∈ es, isRow r := fun r hr => (hE.r r hr).ent.row
  walk_at "pn"
  walk_at "px"
  refine ws_for ?_
  walk_at "px"
  refine ⟨Int, fun v => [.d (.list es), .d (.tuple [.tuple cs, .tuple ps, .tuple dl]), .d (.int v), .u, .u, .u, .u], fun _ => (), fun i v => v = (i : Int) ∧ (cs.take i).all (failB es) = true, nxt 0 (by walk_at "wk") rfl ⟨rfl, rfl⟩, fun i x w hx hI => ?_, fun w hI => ?_⟩
  · have hi := (List.getElem?_eq_some_iff.mp hx).1
    obtain ⟨a, b, v, rfl⟩ := cond_3 (List.all_eq_true.mp hg.ac x (List.mem_of_getElem? hx))
    obtain ⟨e1, hI⟩ := hI
    have e1 : w = (i : Int) := e1
    subst e1
    have hc0 : 0 ≤ v := by
      have h := List.all_eq_true.mp hg.ac _ (List.mem_of_getElem? hx)
      obtain ⟨j, e, h0, _⟩ := intIn_int ((Bool.and_eq_true _ _).mp h).2
      cases e
      exact h0
    have htk : failB es (.tuple [.str a, .str b, .int v]) = true → (cs.take (i + 1)).all (failB es) = true := fun h => by rw [take_succ_app hx, List.all_append, hI, List.all_cons, h]; rfl
    have hret : failB es (.tuple [.str a, .str b, .int v]) = false → firstF (okL es cs dl) = (i : Int) := fun h => okL_c hx h hI
    clear hx
    walk_at "pn"
    refine wg_tup rfl (wgs_cons (wg_name (wgs_cons (wg_name (wgs_cons (wg_name (wgs_nil ?_)))))))
    walk_at "pn"
    walk_at "px"
    refine we_callP ?_
    walk_at "px"
    refine ⟨⟨_, _, _, rfl, es, a, b, ⟨rfl, by omega, hrow⟩, rfl, rfl⟩, fun r hr2 => ?_⟩
    obtain rfl := hr2 _ _ _ rfl
    have efb : failB es (.tuple [.str a, .str b, .int v]) = (match findR es [.inr a, .inr b] with | some (.tuple [_, _, _, .int u, _]) => decide (u = v) | _ => decide (v = 0)) := rfl
    rw [efb] at htk hret
    cases hf : findR es [.inr a, .inr b] with
    | none =>
      rw [hf] at htk hret
      dsimp only [Option.getD] at htk hret ⊢
      walk_at "pn"
      walk_at "px"
      by_cases hv : v = 0
      · rw [decide_eq_false (by omega : ¬ (0 < v))]
        walk_at "px"
        exact nxt ((i : Int) + 1) (by walk_at "wk") rfl ⟨by show (i : Int) + 1 = ((i + 1 : Nat) : Int); omega, htk (decide_eq_true hv)⟩
      · rw [decide_eq_true (by omega : 0 < v)]
        walk_at "px"
        refine ⟨fun es' c' p' d' e => ?_, True.intro⟩
        cases e
        rw [hret (decide_eq_false hv)]
    | some r =>
      obtain ⟨a', b', x, y, c, rfl, _⟩ := hE.r r (findR_mem hf)
      rw [hf] at htk hret
      dsimp only [Option.getD] at htk hret ⊢
      walk_at "pn"
      walk_at "px"
      by_cases hv : y = v
      · rw [decide_eq_true hv]
        refine ⟨fun z => (by cases z), fun _ => ?_⟩
        walk_at "px"
        exact nxt ((i : Int) + 1) (by walk_at "wk") rfl ⟨by show (i : Int) + 1 = ((i + 1 : Nat) : Int); omega, htk (decide_eq_true hv)⟩
      · rw [decide_eq_false hv]
        refine ⟨fun _ => ?_, fun z => (by cases z)⟩
        walk_at "px"
        refine ⟨fun es' c' p' d' e => ?_, True.intro⟩
        cases e
        rw [hret (decide_eq_false hv)]
  · obtain ⟨e1, hI⟩ := hI
    have e1 : w = (cs.length : Int) := e1
    subst e1
    rw [List.take_length] at hI
    walk_at "pn"
    walk_at "px"
    refine ws_for ?_
    walk_at "px"
    refine ⟨Int, fun v => [.d (.list es), .d (.tuple [.tuple cs, .tuple ps, .tuple dl]), .d (.int v), .u, .u, .u, .u], fun _ => (), fun i v => v = ((cs.length + i : Nat) : Int) ∧ (dl.take i).all (goneB es) = true, nxt (cs.length : Int) (by walk_at "wk") rfl ⟨rfl, rfl⟩, fun i x w hx hJ => ?_, fun w hJ => ?_⟩
    · have hi := (List.getElem?_eq_some_iff.mp hx).1
      obtain ⟨a, b, rfl⟩ := del_2S (List.all_eq_true.mp hg.ad x (List.mem_of_getElem? hx))
      obtain ⟨e1, hJ⟩ := hJ
      have e1 : w = ((cs.length + i : Nat) : Int) := e1
      subst e1
      have htk : goneB es (.tuple [.str a, .str b]) = true → (dl.take (i + 1)).all (goneB es) = true := fun h => by rw [take_succ_app hx, List.all_append, hJ, List.all_cons, h]; rfl
      have hret : goneB es (.tuple [.str a, .str b]) = false → firstF (okL es cs dl) = ((cs.length + i : Nat) : Int) := fun h => okL_d hI hx h hJ
      clear hx
      walk_at "pn"
      refine wg_tup rfl (wgs_cons (wg_name (wgs_cons (wg_name (wgs_nil ?_)))))
      walk_at "pn"
      walk_at "px"
      refine we_callP ?_
      walk_at "px"
      refine ⟨⟨_, _, _, rfl, es, a, b, ⟨rfl, by omega, hrow⟩, rfl, rfl⟩, fun r hr2 => ?_⟩
      obtain rfl := hr2 _ _ _ rfl
      have eg : goneB es (.tuple [.str a, .str b]) = (findR es [.inr a, .inr b]).isSome := rfl
      rw [eg] at htk hret
      cases hf : findR es [.inr a, .inr b] with
      | none =>
        rw [hf] at htk hret
        dsimp only [Option.getD]
        walk_at "px"
        refine ⟨fun es' c' p' d' e => ?_, True.intro⟩
        cases e
        rw [hret rfl]
      | some r =>
        obtain ⟨a', b', x, y, c, rfl, _⟩ := hE.r r (findR_mem hf)
        rw [hf] at htk hret
        dsimp only [Option.getD]
        walk_at "px"
        exact nxt (((cs.length + i : Nat) : Int) + 1) (by walk_at "wk") rfl ⟨by show ((cs.length + i : Nat) : Int) + 1 = ((cs.length + (i + 1) : Nat) : Int); omega, htk rfl⟩
    · obtain ⟨e1, hJ⟩ := hJ
      rw [List.take_length] at hJ
      walk_at "pn"
      walk_at "px"
      refine ⟨fun es' c' p' d' e => ?_, True.intro⟩
      cases e
      rw [okL_t hI hJ]
end
/-! # data of texts, ints and tuples -/
def noB : Nat → PyData → Bool
  | _, .int _ => true
  | _, .str _ => true
  | n + 1, .tuple xs => xs.all (noB n)
  | _, _ => false
theorem nm_nob {y : PyData} {n : Nat} (h : isNm y = true) : noB n y = true := by
  cases y with
  | str z => cases n <;> rfl
  | _ => cases h
theorem tx_nob {y : PyData} {n : Nat} (h : isTx y = true) : noB n y = true := by
  cases y with
  | str z => cases n <;> rfl
  | _ => cases h
theorem sl_nob {y : PyData} {n : Nat} (h : isSl y = true) : noB n y = true := by
  cases y with
  | str z => cases n <;> rfl
  | _ => cases h
theorem str_nob {z : Str} {n : Nat} : noB n (.str z) = true := by cases n <;> rfl
theorem int_nob {z : Int} {n : Nat} : noB n (.int z) = true := by cases n <;> rfl
theorem zo_nob {y : PyData} {n : Nat} (h : isZo y = true) : noB n y = true := by
  unfold isZo at h
  rw [Bool.or_eq_true] at h
  rcases h with h | h
  · rw [eqv_strR h]; exact str_nob
  · exact nm_nob h
theorem in_nob {y : PyData} {lo hi : Int} {n : Nat} (h : intIn y lo hi = true) : noB n y = true := by
  obtain ⟨j, rfl, _⟩ := intIn_int h
  exact int_nob
theorem ky_nob {k y : PyData} {n m : Nat} (h : isKy k y = true) : noB n k = true ∧ noB m y = true := by
  obtain ⟨a, b, rfl, rfl⟩ := ky_str h
  exact ⟨str_nob, str_nob⟩
theorem open_nob : ∀ {xs : List PyData} {l : Int}, openFrom l xs = true → ∀ x ∈ xs, ∀ n, noB n x = true
  | [], l, _ => fun x hx => by cases hx
  | x :: xs, l, h => by
    unfold openFrom at h
    rw [Bool.and_eq_true] at h
    intro y hy n
    rcases List.mem_cons.mp hy with rfl | hy2
    · exact in_nob h.1
    · obtain ⟨j, rfl, _⟩ := intIn_int h.1
      exact open_nob h.2 y hy2 n
theorem op_nob {y : PyData} {n : Nat} (h : isOpN y = true) : noB (n + 1) y = true := by
  cases y with
  | tuple xs => exact List.all_eq_true.mpr fun x hx => open_nob (show openFrom 0 xs = true from h) x hx n
  | _ => cases h
theorem st_nob {y : PyData} {n : Nat} (h : (statesD.any fun z => z.eqv y) = true) : noB n y = true := by
  rw [List.any_eq_true] at h
  obtain ⟨z, hz, he⟩ := h
  simp only [statesD, List.mem_cons, List.not_mem_nil, or_false] at hz
  rcases hz with rfl | rfl | rfl | rfl <;> (rw [eqv_strL he]; exact str_nob)
theorem form_nob {z : Str} {y : PyData} (h : formOf z y = true) : noB 3 y = true := by
  have tup : ∀ {xs : List PyData}, xs.length ≤ 8 → (∀ x ∈ xs, noB 2 x = true) → noB 3 (.tuple xs) = true := fun hl h => List.all_eq_true.mpr h
  unfold formOf at h
  repeat' split at h
  · unfold fBeat at h
    split at h
    · simp only [Bool.and_eq_true, isCt] at h
      exact tup (by simp) (by simp [in_nob h.1, in_nob h.2])
    · cases h
  · unfold fDrain at h
    split at h
    · exact tup (by simp) (by simp [tx_nob h])
    · cases h
  · unfold fNode at h
    split at h
    · simp only [Bool.and_eq_true, isCt] at h
      exact tup (by simp) (by simp [in_nob h.1, in_nob h.2.1, in_nob h.2.2.1, in_nob h.2.2.2.1, zo_nob h.2.2.2.2])
    · cases h
  · unfold fNote at h
    split at h
    · simp only [Bool.and_eq_true, isCt, Bool.or_eq_true] at h
      rcases h.2.2 with h2 | h2
      · have e2 := eqv_strR h2.2
        subst e2
        have e1 := eqv_strR h2.1
        subst e1
        exact tup (by simp) (by simp [tx_nob h.1, in_nob h.2.1, str_nob])
      · exact tup (by simp) (by simp [tx_nob h.1, in_nob h.2.1, (ky_nob (n := 2) (m := 2) h2).1, (ky_nob (n := 2) (m := 2) h2).2])
    · cases h
  · unfold fRollout at h
    split at h
    · simp only [Bool.and_eq_true, isCt] at h
      exact tup (by simp) (by simp [in_nob h.1, op_nob (n := 1) h.2])
    · cases h
  · unfold fService at h
    split at h
    · simp only [Bool.and_eq_true, isCt] at h
      exact tup (by simp) (by simp [in_nob h.1, in_nob h.2.1, tx_nob h.2.2.1, in_nob h.2.2.2.1, zo_nob h.2.2.2.2])
    · cases h
  · unfold fTask at h
    split at h
    · simp only [Bool.and_eq_true, isCt] at h
      exact tup (by simp) (by simp [in_nob h.1, in_nob h.2.1, in_nob h.2.2.1, tx_nob h.2.2.2.1, zo_nob h.2.2.2.2.1, zo_nob h.2.2.2.2.2.1, st_nob h.2.2.2.2.2.2.1, in_nob h.2.2.2.2.2.2.2])
    · cases h
theorem noB_mono : ∀ {n m : Nat} {d : PyData}, n ≤ m → noB n d = true → noB m d = true
  | _, _, .int _, _, _ => int_nob
  | _, _, .str _, _, _ => str_nob
  | 0, _, .tuple _, _, h => by simp [noB] at h
  | n + 1, 0, .tuple _, hm, _ => by omega
  | n + 1, m + 1, .tuple xs, hm, h => List.all_eq_true.mpr fun x hx => noB_mono (by omega) (List.all_eq_true.mp h x hx)
  | n, _, .none, _, h => by cases n <;> simp [noB] at h
  | n, _, .bool _, _, h => by cases n <;> simp [noB] at h
  | n, _, .list _, _, h => by cases n <;> simp [noB] at h
  | n, _, .dict _, _, h => by cases n <;> simp [noB] at h
theorem noB_tup {n : Nat} {xs : List PyData} (h : ∀ x ∈ xs, noB n x = true) : noB (n + 1) (.tuple xs) = true := List.all_eq_true.mpr h
theorem put_nob {p : PyData} (h : isPut p = true) : noB 4 p = true := by
  unfold isPut at h
  split at h
  · rename_i k n v
    have hk : isKy k n = true := ((Bool.and_eq_true _ _).mp h).1
    have hf := ((Bool.and_eq_true _ _).mp ((Bool.and_eq_true _ _).mp h).2).2
    obtain ⟨a, b, rfl, rfl⟩ := ky_str hk
    exact noB_tup (by simp [str_nob, form_nob hf])
  · cases h
theorem del_nob {p : PyData} (h : isDel p = true) : noB 4 p = true := by
  obtain ⟨a, b, rfl⟩ := del_2S h
  exact noB_tup (by simp [str_nob])
theorem SI.rowN {m : SM} (h : SI m) {r : PyData} (hr : r ∈ entsD m.tab) : noB 4 r = true := by
  obtain ⟨x, y, b, v, c, rfl, _, h1, _⟩ := h.row hr
  have hf := ((Bool.and_eq_true _ _).mp ((Bool.and_eq_true _ _).mp h1).2).2
  exact noB_tup (by simp [str_nob, int_nob, form_nob hf])
/-! # the same -/
/-- data that the law compares, of depth n -/
def SmD (n : Nat) (x y : PyData) : Prop := x = y ∧ ∃ j, n = j + 1 ∧ noB j x = true ∧ okx j x = true ∧ j ≤ 20
section
variable {P : Program} {w : World} {K : PySem.W.Frag} {mg : Str → Option Value} {base : Heap}
theorem ok__law_is_integer (T : TX K mg w) : FnOk P w K mg base CX0 1 T.a__law_is_integer T.d__law_is_integer ["actual"] (spP K (P1 fun x => ∃ i, x = .int i) (fun _ r => r = .d (.bool true))) := by
  refine okP T.F__law_is_integer sc__law_is_integer 0 rfl P1.len fun cdv A outer s H E hr => ⟨_, (pss_one (ps_ret (pe_and (pe_callB (callK_isi (K := K) rfl) (by rfl) T.n_isinstance (by decide +kernel) (pa_cons (pv 0) (pa_cons (pe_bltn (v := .ty "int") (u := .type "int") (by rfl) T.n_int (by decide +kernel) rfl) pa_nil))) (pe_one (pe_not (pe_callB (callK_isi (K := K) rfl) (by rfl) T.n_isinstance (by decide +kernel) (pa_cons (pv 0) (pa_cons (pe_bltn (v := .ty "bool") (u := .type "bool") (by rfl) T.n_bool (by decide +kernel) rfl) pa_nil)))))))), fun ds hd => ?_⟩
  obtain ⟨e, rfl, i, rfl⟩ := hd
  walk_at "pn"
  walk_at "px"
  exact True.intro
theorem okn__law_same (T : TX K mg w) : ∀ n : Nat, FnOk P w K mg base CX0 (n + 2) T.a__law_same T.d__law_same ["actual", "expected"] (spP K (P2 (SmD n)) (fun _ r => r = .d (.bool true))) := by
  intro n
  induction n with
  | zero => 
    have no : ∀ {vs H Q E}, ¬ spP K (P2 (SmD 0)) (fun _ r => r = .d (.bool true)) vs H Q E := fun ⟨_, _, _, _, ⟨_, _, _, _, _, h, _⟩, _⟩ => by cases h
    exact T.F__law_same.ok sc__law_same (fun vs H Q E h => (no h).elim) (fun cdv A outer s H vs Q E hr h => (no h).elim)
  | succ n ih__law_same =>
    refine okP T.F__law_same sc__law_same 1 rfl P2.len fun cdv A outer s H E hr => ⟨_, (pss_cons (ps_if (pt_val (pe_callB (callK_isi (K := K) rfl) (by rfl) T.n_isinstance (by decide +kernel) (pa_cons (pv 1) (pa_cons (pe_bltn (v := .ty "tuple") (u := .type "tuple") (by rfl) T.n_tuple (by decide +kernel) rfl) pa_nil)))) (pss_cons (ps_if (PW.pt (pw_or (pt_not (pt_val (pe_callB (callK_isi (K := K) rfl) (by rfl) T.n_isinstance (by decide +kernel) (pa_cons (pv 0) (pa_cons (pe_bltn (v := .ty "tuple") (u := .type "tuple") (by rfl) T.n_tuple (by decide +kernel) rfl) pa_nil))))) (pw_or1 (pt_cmpR op_ne (pe_callB (callK_len (K := K) rfl) (by rfl) T.n_len PySem.boot_len (pa_cons (pv 0) pa_nil)) (pe_callB (callK_len (K := K) rfl) (by rfl) T.n_len PySem.boot_len (pa_cons (pv 1) pa_nil)) (nomark _))))) (pss_one (ps_ret pe_bl)) pss_nil)
        (pss_cons (ps_for PassesOwn.never rfl (pi_range1 (by rfl) T.n_range (pa_cons (pe_callB (callK_len (K := K) rfl) (by rfl) T.n_len PySem.boot_len (pa_cons (pv 1) pa_nil)) pa_nil)) (pg_name (i := 2) sc__law_same.nd rfl (Or.inl rfl))
          (pss_one (ps_if (pt_not (pt_val (pe_call ih__law_same (hr.mono (by omega)) (by rfl) T.g__law_same T.F__law_same.kp T.b__law_same .nil pass0 (pa_cons (pe_ix (ixK_tup (K := K) rfl) (pv 0) (pv 2) (fun _ _ => rfl)) (pa_cons (pe_ix (ixK_tup (K := K) rfl) (pv 1) (pv 2) (fun _ _ => rfl)) pa_nil))))) (pss_one (ps_ret pe_bl)) pss_nil)))
        (pss_one (ps_ret pe_bl)))) pss_nil)
      (pss_cons (ps_if (pt_val (pe_callB (callK_isi (K := K) rfl) (by rfl) T.n_isinstance (by decide +kernel) (pa_cons (pv 1) (pa_cons (pe_bltn (v := .ty "str") (u := .type "str") (by rfl) T.n_str (by decide +kernel) rfl) pa_nil)))) (pss_one (ps_ret (pe_and (pe_callB (callK_isi (K := K) rfl) (by rfl) T.n_isinstance (by decide +kernel) (pa_cons (pv 0) (pa_cons (pe_bltn (v := .ty "str") (u := .type "str") (by rfl) T.n_str (by decide +kernel) rfl) pa_nil))) (pe_one (pe_cmpR (opK_eqD (K := K) rfl hr.units) (pv 0) (pv 1) (nomark _)))))) pss_nil)
      (pss_one (ps_ret (pe_and (pe_call (ok__law_is_integer T) (hr.mono (by omega)) (by rfl) T.g__law_is_integer T.F__law_is_integer.kp T.b__law_is_integer .nil pass0 (pa_cons (pv 0) pa_nil)) (pe_one (pe_cmpR (opK_eqD (K := K) rfl hr.units) (pv 0) (pv 1) (nomark _)))))))), fun ds hd => ?_⟩
    obtain ⟨x, y, rfl, rfl, j, ej, hn, ho, hj⟩ := hd
    obtain rfl : n = j := by omega
    cases x with
    | int i =>
      walk_at "pn"
      walk_at "px"
      refine we_callP ?_
      walk_at "px"
      refine ⟨⟨_, rfl, i, rfl⟩, fun r hr2 => ?_⟩
      subst hr2
      refine ⟨true, rfl, fun _ => ?_, fun z => (by cases z)⟩
      walk_at "px"
      rw [eqv_okE ho (by omega)]
      exact ⟨rfl, True.intro⟩
    | str z =>
      walk_at "pn"
      walk_at "px"
      refine opP_eqD (d := .str z) (e := .str z) rfl rfl (okx_sh ho (by omega)) (okx_sh ho (by omega)) ?_
      rw [eqv_okE ho (by omega)]
      exact ⟨rfl, True.intro⟩
    | tuple xs =>
      obtain ⟨j, rfl⟩ : ∃ j, n = j + 1 := by
        cases n with
        | zero => simp [noB] at hn
        | succ j => exact ⟨j, rfl⟩
      have hxl : xs.length ≤ 90000 := by
        unfold okx at ho
        exact of_decide_eq_true ((Bool.and_eq_true _ _).mp ho).1
      have hox : ∀ x ∈ xs, okx j x = true := okx_all ho
      have hnx : ∀ x ∈ xs, noB j x = true := List.all_eq_true.mp hn
      walk_at "pn"
      walk_at "px"
      rw [decide_eq_true (rfl : (xs.length : Int) = (xs.length : Int))]
      refine ⟨fun z => (by cases z), fun _ => ?_⟩
      refine ws_next ?_
      refine ws_seq (ws_for ?_)
      refine wi_rng1 ?_
      walk_at "px"
      refine ⟨Unit, fun _ => [.d (.tuple xs), .d (.tuple xs), .u], fun _ => (), fun _ _ => True, nxt () (by walk_at "wk") rfl True.intro, fun i x _ hx _ => ?_, fun _ _ => ?_⟩
      · obtain ⟨hi, rfl⟩ := nums_at hx
        have hat : atI xs (0 + (i : Int)) = some xs[i] := by
          unfold atI ixN
          rw [if_pos (by omega), if_pos (by omega)]
          show xs[(0 + (i : Int)).toNat]? = _
          rw [show (0 + (i : Int)).toNat = i by omega, List.getElem?_eq_getElem hi]
        have hm : xs[i] ∈ xs := List.getElem_mem hi
        walk_at "pn"
        refine wg_name ?_
        walk_at "pn"
        walk_at "px"
        refine we_callP ?_
        walk_at "px"
        refine ⟨⟨_, _, rfl, rfl, j, rfl, hnx _ hm, hox _ hm, by omega⟩, fun r hr2 => ?_⟩
        subst hr2
        refine ⟨true, rfl, fun z => (by cases z), fun _ => ?_⟩
        walk_at "px"
        exact nxt () (by walk_at "wk") rfl True.intro
      · walk_at "pn"
        walk_at "px"
        exact True.intro
    | _ => cases n <;> simp [noB] at hn
theorem ok__law_same (T : TX K mg w) : FnOk P w K mg base CX0 (13) T.a__law_same T.d__law_same ["actual", "expected"] (spP K (P2 (SmD 11)) (fun _ r => r = .d (.bool true))) := okn__law_same T 11
end
/-! # images -/
section
variable {P : Program} {w : World} {K : PySem.W.Frag} {mg : Str → Option Value} {base : Heap}
theorem row_put {rows : List PyData} {i : Nat} {r : PyData} (h : rows[i]? = some r) : tabOf (rows.take (i + 1)) = rowPut (tabOf (rows.take i)) r := by
  unfold tabOf
  rw [take_succ_app h, List.foldl_append]
  rfl
theorem rowPut_len {t : Tab} {r : PyData} : (rowPut t r).length ≤ t.length + 1 := by
  unfold rowPut
  split
  · exact put_len
  · omega
theorem ok_Store_from_image (T : TX K mg w) : FnOk P w K mg base CX0 3 T.a_Store_from_image T.d_Store_from_image ["image"] (sp_img K T.a_Store) := by
  refine T.F_Store_from_image.ok sc_Store_from_image (fun vs H Q E h => ?_) (fun cdv A outer s H vs Q E hr h => ?_)
  · obtain ⟨v, rev, rows, B, rfl, _⟩ := h
    rfl
  · obtain ⟨v, rev, rows, B, rfl, hv, sB, hl, hR, q⟩ := h
    refine ⟨_, (pss_cons (ps_set (i := 1) sc_Store_from_image.nd rfl (Or.inl rfl) (pe_make0 T.M_Store (ok_Store___init__ T) (hr.mono (by decide)) (by rfl) T.g_Store T.b_Store___init__ .nil pass0))
      (pss_cons (ps_asg (pv 0) (pgK_tup (K := K) (n := 2) rfl rfl (pgs_cons (pg_fld (K := K) rfl (pv 1)) (pgs_cons (pg_name (i := 2) sc_Store_from_image.nd rfl (Or.inl rfl)) pgs_nil))))
      (pss_cons (psK_fld (K := K) rfl (pv 1) (pe_fldK (K := K) rfl (pv 1) rfl) rfl)
      (pss_cons (ps_for PassesOwn.never rfl (piK_tup (K := K) rfl (pv 2)) (pgK_tup (K := K) (n := 5) rfl rfl (pgs_cons (pg_name (i := 3) sc_Store_from_image.nd rfl (Or.inl rfl)) (pgs_cons (pg_name (i := 4) sc_Store_from_image.nd rfl (Or.inl rfl)) (pgs_cons (pg_name (i := 5) sc_Store_from_image.nd rfl (Or.inl rfl)) (pgs_cons (pg_name (i := 6) sc_Store_from_image.nd rfl (Or.inl rfl)) (pgs_cons (pg_name (i := 7) sc_Store_from_image.nd rfl (Or.inl rfl)) pgs_nil))))))
        (pss_one (ps_dput (hu_of hr) (pe_fldK (K := K) rfl (pv 1) rfl) (pe_tup (pa_cons (pv 3) (pa_cons (pv 4) pa_nil))) (pe_tup (pa_cons (pv 5) (pa_cons (pv 6) (pa_cons (pv 7) pa_nil)))) rfl)))
      (pss_one (ps_ret (pv 1))))))), ?_⟩
    refine fun x dx h1 h2 h3 => ⟨x, dx, rfl, upd_same, fun t c H2 ht hc htc hs2 ht2 hc2 keep => ⟨rfl, ?_⟩⟩
    have k1 : ∀ y o, H y = some o → H2 y = some o := fun y o e => by
      have n1 : y ≠ x := fun z => by rw [z, h1] at e; cases e
      have n2 : y ≠ dx := fun z => by rw [z, h2] at e; cases e
      exact keep y o (by rw [upd_ne n1, upd_ne n2]; exact e) n1
    have ht0 : H t = none := by
      have n1 : t ≠ x := fun z => by rw [z, upd_same] at ht; cases ht
      have n2 : t ≠ dx := fun z => by rw [z, upd_ne h3, upd_same] at ht; cases ht
      rw [upd_ne n1, upd_ne n2] at ht; exact ht
    have hc0 : H c = none := by
      have n1 : c ≠ x := fun z => by rw [z, upd_same] at hc; cases hc
      have n2 : c ≠ dx := fun z => by rw [z, upd_ne h3, upd_same] at hc; cases hc
      rw [upd_ne n1, upd_ne n2] at hc; exact hc
    dsimp only [L2.gName]
    show tSeq _ _ { nx := fun _ H' => Q .non H', rt := Q } (some v :: some (.ref x) :: List.replicate 6 none) H2
    have hnone : ∀ y, H y = none → B y = none := fun y hy => by
      cases hb : B y with
      | none => rfl
      | some o => rw [sB _ _ hb] at hy; cases hy
    have hR2 : (ownR K T.a_Store).rel (sm0 x t c) (fun y => y = x ∨ y = t ∨ y = c) H2 B := by
      refine ⟨⟨dx, hs2⟩, ⟨[], ht2, .nil⟩, ⟨[], hc2, .nil⟩, fun _ => Iff.rfl, fun y hy => ?_⟩
      rcases hy with rfl | rfl | rfl
      · exact ⟨by rw [hs2]; simp, hnone _ h1⟩
      · exact ⟨by rw [ht2]; simp, hnone _ ht0⟩
      · exact ⟨by rw [hc2]; simp, hnone _ hc0⟩
    refine enterD (K := K) (E := E) (B := B) (ρ := [.d (.tuple [.int rev, .tuple rows]), .v (.ref x), .u, .u, .u, .u, .u, .u]) (rt := fun r m => r = .v (.ref m.s) ∧ m.rev = rev ∧ m.old = rev ∧ m.chs = [] ∧ m.tab = tabOf rows) hR2 (fun y o e => k1 y o (sB y o e)) rfl (fun i u hu => ?_) (fun v r m' F' H' B' hk st rl rel => ?_) ?_
    · match i with
      | 0 => cases hu; exact ⟨_, rfl, .inr (.inr ⟨_, _, rfl, rfl, hv⟩)⟩
      | 1 => cases hu; exact ⟨_, rfl, .inr (.inl ⟨_, rfl, rfl⟩)⟩
      | 2 | 3 | 4 | 5 | 6 | 7 => cases hu; exact ⟨none, rfl, .inl rfl⟩
      | i + 8 => cases hu
    · obtain ⟨e0, e1, e2, e3, e4⟩ := hk
      subst e0
      cases (show v = .ref m'.s from rel)
      have nF : ∀ y, H y ≠ none → ¬ (y = x ∨ y = t ∨ y = c) := fun y hy z => by
        rcases z with rfl | rfl | rfl
        · exact hy h1
        · exact hy ht0
        · exact hy hc0
      have live : ∀ y, H y ≠ none → H2 y ≠ none := fun y hy => by
        cases ho : H y with
        | none => exact absurd ho hy
        | some o => rw [k1 y o ho]; simp
      refine q m' F' H' B' rl e1 e2 e3 e4 (fun y o ho => st.k y o (k1 y o ho) (nF y (by rw [ho]; simp))) st.b st.s (fun y hy hb => st.f y (live y hy) hb) fun y hy => ?_
      refine Classical.byContradiction fun hz => ?_
      exact st.n y (live y hz) (nF y hz) hy
    clear q k1 hs2 ht2 hc2 hR2 h1 h2 h3 ht hc htc ht0 hc0 keep hnone sB hv
    have kC := T.K_Store
    have n1 := T.na_Store_revision
    have n2 := T.na_Store_oldest
    have n3 := T.na_Store__table
    walk_at "pn"
    refine ws_seq (ws_imgO kC n1 rfl rfl ?_)
    walk_at "pn"
    refine ws_seq (ws_oldsetO kC n2 rfl (we_fldIO kC n1 rfl rfl ⟨rfl, _, rfl, ?_⟩))
    walk_at "pn"
    show WS (ownR K T.a_Store) K E _ [.d (.tuple [.int rev, .tuple rows]), .v (.ref x), .d (.tuple rows), .u, .u, .u, .u, .u] (⟨x, t, c, rev, rev, [], []⟩ : SM) _ _ _ _ _
    refine ws_seq (ws_for ?_)
    walk_at "px"
    refine ⟨SM, fun _ => [.d (.tuple [.int rev, .tuple rows]), .v (.ref x), .d (.tuple rows), .u, .u, .u, .u, .u], fun m => m, fun i m => m = ⟨x, t, c, rev, rev, tabOf (rows.take i), []⟩ ∧ m.tab.length ≤ i, nxt _ (by walk_at "wk") rfl ⟨rfl, Nat.le_refl _⟩, fun i r m hr hI => ?_, fun m hI => ?_⟩
    · obtain ⟨k, n, b, v, d, rfl⟩ := hR r (List.mem_of_getElem? hr)
      obtain ⟨hm, hml⟩ := hI
      have hm : m = ⟨x, t, c, rev, rev, tabOf (rows.take i), []⟩ := hm
      have hml : m.tab.length ≤ i := hml
      have hi := (List.getElem?_eq_some_iff.mp hr).1
      have hst := row_put hr
      have hx : m.s = x := by rw [hm]
      have ht : rowPut (tabOf (rows.take i)) (.tuple [.str k, .str n, .int b, .int v, d]) = putD m.tab [.inr k, .inr n] (.tuple [.int b, .int v, d]) := by rw [hm]; rfl
      rw [ht] at hst
      clear hr
      walk_at "pn"
      refine wg_tup rfl (wgs_cons (wg_name (wgs_cons (wg_name (wgs_cons (wg_name (wgs_cons (wg_name (wgs_cons (wg_name (wgs_nil ?_)))))))))))
      walk_at "pn"
      refine ws_dputO ?_
      walk_at "px"
      refine we_fldVO kC n3 (by rw [hx]; rfl) rfl ?_
      refine ⟨rfl, ?_⟩
      walk_at "px"
      refine ⟨by show m.tab.length < 90000; omega, nxt _ (by walk_at "wk") rfl ⟨?_, Nat.le_trans put_len (Nat.succ_le_succ hml)⟩⟩
      show ({ m with tab := putD m.tab [.inr k, .inr n] (.tuple [.int b, .int v, d]) } : SM) = ⟨x, t, c, rev, rev, tabOf (rows.take (i + 1)), []⟩
      rw [hst]
      cases m
      cases hm
      rfl
    · obtain ⟨hm, hml⟩ := hI
      rw [List.take_length] at hm
      have hm : m = ⟨x, t, c, rev, rev, tabOf rows, []⟩ := hm
      subst hm
      walk_at "px"
      exact rfl
theorem ok_Store_image (T : TX K mg w) : FnOk P w K mg base CX0 2 T.a_Store_image T.d_Store_image ["self"] (spM (sR K T) K SM.s (fun m ds => ds = [] ∧ SI m ∧ m.rev ≤ 2000) (fun m _ r m' => m' = m ∧ r = .d (.tuple [.int m.rev, .tuple (entsD m.tab)])) fun _ _ _ => False) := by
  refine okM T.F_Store_image sc_Store_image 0 rfl (fun m ds ⟨e, _⟩ => by rw [e]; rfl) fun cdv A outer s H E hr => ⟨_, (pss_one (ps_ret (pe_tup (pa_cons (pe_fldK (K := K) rfl (pv 0) rfl) (pa_cons (pe_callTy (callK_tuple (K := K) rfl) (by rfl) T.n_tuple (by decide +kernel) (pa_cons (pe_meth0 (pv 0) T.K_Store T.m_Store_entries (ok_Store_entries T) (hr.mono (by decide)) T.b_Store_entries .nil pass0) pa_nil)) pa_nil))))), fun m ds hd => ?_⟩
  obtain ⟨rfl, hs, hrv⟩ := hd
  have kC := T.K_Store
  have n1 := T.na_Store_revision
  walk_at "pn"
  walk_at "px"
  refine we_entM rfl hs (by omega) ?_
  walk_at "px"
  exact rfl
theorem ok__law_same_entries (T : TX K mg w) : FnOk P w K mg base CX0 14 T.a__law_same_entries T.d__law_same_entries ["actual", "entries"] (spP K (P2 fun x y => ∃ xs, x = .list xs ∧ y = .list xs ∧ xs.length ≤ 40000 ∧ ∀ r ∈ xs, SmD 11 r r) (fun _ r => r = .d (.bool true))) := by
  refine okP T.F__law_same_entries sc__law_same_entries 1 rfl P2.len fun cdv A outer s H E hr => ⟨_, (pss_cons (ps_if (PW.pt (pw_or (pt_not (pt_val (pe_callB (callK_isi (K := K) rfl) (by rfl) T.n_isinstance (by decide +kernel) (pa_cons (pv 0) (pa_cons (pe_bltn (v := .ty "list") (u := .type "list") (by rfl) T.n_list (by decide +kernel) rfl) pa_nil))))) (pw_or1 (pt_cmpR op_ne (pe_callB (callK_len (K := K) rfl) (by rfl) T.n_len PySem.boot_len (pa_cons (pv 0) pa_nil)) (pe_callB (callK_len (K := K) rfl) (by rfl) T.n_len PySem.boot_len (pa_cons (pv 1) pa_nil)) (nomark _))))) (pss_one (ps_ret pe_bl)) pss_nil)
      (pss_cons (ps_for PassesOwn.never rfl (pi_range1 (by rfl) T.n_range (pa_cons (pe_callB (callK_len (K := K) rfl) (by rfl) T.n_len PySem.boot_len (pa_cons (pv 1) pa_nil)) pa_nil)) (pg_name (i := 2) sc__law_same_entries.nd rfl (Or.inl rfl))
        (pss_one (ps_if (pt_not (pt_val (pe_call (ok__law_same T) (hr.mono (by decide)) (by rfl) T.g__law_same T.F__law_same.kp T.b__law_same .nil pass0 (pa_cons (pe_ix (ixK_list (K := K) rfl) (pv 0) (pv 2) (fun _ _ => rfl)) (pa_cons (pe_ix (ixK_list (K := K) rfl) (pv 1) (pv 2) (fun _ _ => rfl)) pa_nil))))) (pss_one (ps_ret pe_bl)) pss_nil)))
      (pss_one (ps_ret pe_bl)))), fun ds hd => ?_⟩
  obtain ⟨x, y, rfl, xs, rfl, rfl, hl, hs⟩ := hd
  walk_at "pn"
  walk_at "px"
  rw [decide_eq_true (rfl : (xs.length : Int) = (xs.length : Int))]
  refine ⟨fun z => (by cases z), fun _ => ?_⟩
  refine ws_next ?_
  refine ws_seq (ws_for ?_)
  walk_at "px"
  refine ⟨Unit, fun _ => [.d (.list xs), .d (.list xs), .u], fun _ => (), fun _ _ => True, nxt () (by walk_at "wk") rfl True.intro, fun i x _ hx _ => ?_, fun _ _ => ?_⟩
  · obtain ⟨hi, rfl⟩ := nums_at hx
    have hat : atI xs (0 + (i : Int)) = some xs[i] := by
      unfold atI ixN
      rw [if_pos (by omega), if_pos (by omega)]
      show xs[(0 + (i : Int)).toNat]? = _
      rw [show (0 + (i : Int)).toNat = i by omega, List.getElem?_eq_getElem hi]
    have hm := hs xs[i] (List.getElem_mem hi)
    walk_at "pn"
    refine wg_name ?_
    walk_at "pn"
    walk_at "px"
    refine we_callP ?_
    walk_at "px"
    refine ⟨⟨_, _, rfl, hm⟩, fun r hr2 => ?_⟩
    subst hr2
    refine ⟨true, rfl, fun z => (by cases z), fun _ => ?_⟩
    walk_at "px"
    exact nxt () (by walk_at "wk") rfl True.intro
  · walk_at "pn"
    walk_at "px"
    exact True.intro
end
/-! # sessions: the methods -/
/-- what a dict of sessions holds -/
def KdOk (kd : KD) : Prop := ∀ k v, lkK kd k = some v → ∃ (n : Int) (as : List PyData), v = .tuple [.int n, .tuple as]
def hasA (kd : KD) (o : Str) (n : Int) : Bool := match lkK kd (.inr o) with
  | some (.tuple [.int l, _]) => decide (n ≤ l)
  | _ => false
def ansD (kd : KD) (o : Str) (n : Int) : PyData := match lkK kd (.inr o) with
  | some (.tuple [.int l, a]) => if n > l then .none else if n < l then .tuple [.str "old"] else a
  | _ => .none
def lastD (kd : KD) (o : Str) : Int := match lkK kd (.inr o) with
  | some (.tuple [.int l, _]) => l
  | _ => 0
def rowK (kd : KD) (y : Str) : PyData := match lkK kd (.inr y) with
  | some (.tuple xs) => .tuple (.str y :: xs)
  | _ => .none
theorem lkK_mem {k : Key} : ∀ {kd : KD}, k ∈ kd.map Prod.fst → ∃ v, lkK kd k = some v
  | [], h => by cases h
  | z :: kd, h => by
    unfold lkK
    rw [List.find?_cons]
    by_cases e : z.1 = k
    · rw [decide_eq_true e]; exact ⟨_, rfl⟩
    · rw [decide_eq_false e]
      rw [List.map_cons, List.mem_cons] at h
      exact lkK_mem (h.resolve_left (Ne.symm e))
/-- the row of a text -/
def rowX (kd : KD) : PyData → PyData
  | .str y => rowK kd y
  | _ => .none
section
variable {P : Program} {w : World} {K : PySem.W.Frag} {mg : Str → Option Value} {base : Heap}
abbrev seR (K : PySem.W.Frag) (T : TX K mg w) : MR SeM := sesR K T.a_Sessions
theorem ok_Sessions_answer (T : TX K mg w) : FnOk P w K mg base CX0 1 T.a_Sessions_answer T.d_Sessions_answer ["self", "origin", "number"] (spM (seR K T) K SeM.s (fun m ds => ∃ (o : Str) (n : Int), ds = [.str o, .int n] ∧ KdOk m.kd) (fun m ds r m' => m' = m ∧ ∀ (o : Str) (n : Int), ds = [.str o, .int n] → r = .d (ansD m.kd o n)) fun _ _ _ => False) := by
  refine okM T.F_Sessions_answer sc_Sessions_answer 0 rfl (fun m ds ⟨o, n, e, _⟩ => by rw [e]; rfl) fun cdv A outer s H E hr => ⟨_, (pss_cons (ps_if (PW.pt (pw_or (pt_cmp (pc_dnotin (hu_of hr) (pv 1) (pe_fldK (K := K) rfl (pv 0) rfl))) (pw_or1 (pt_cmpR op_gt (pv 2) (pe_ix (ixK_tup (K := K) rfl) (pe_dget (hu_of hr) (pe_fldK (K := K) rfl (pv 0) rfl) (pv 1) (fun _ _ => rfl)) pe_int (fun _ _ => rfl)) (nomark _))))) (pss_one (ps_ret pe_non)) pss_nil)
      (pss_cons (ps_if (pt_cmpR op_lt (pv 2) (pe_ix (ixK_tup (K := K) rfl) (pe_dget (hu_of hr) (pe_fldK (K := K) rfl (pv 0) rfl) (pv 1) (fun _ _ => rfl)) pe_int (fun _ _ => rfl)) (nomark _)) (pss_one (ps_ret (pe_tup (pa_cons pe_str pa_nil)))) pss_nil)
      (pss_one (ps_ret (pe_ix (ixK_tup (K := K) rfl) (pe_dget (hu_of hr) (pe_fldK (K := K) rfl (pv 0) rfl) (pv 1) (fun _ _ => rfl)) pe_int (fun _ _ => rfl)))))), fun m ds hd => ?_⟩
  obtain ⟨o, n, rfl, hk⟩ := hd
  have kC := T.K_Sessions
  have nK := T.na_Sessions__kept
  walk_at "pn"
  walk_at "px"
  refine we_snotin .refl ?_
  walk_at "px"
  refine we_kept .refl kC nK rfl ⟨rfl, rfl, ?_⟩
  cases hq : lkK m.kd (.inr o) with
  | none =>
    refine ⟨true, rfl, fun z => (by cases z), fun _ => ⟨fun _ => ?_, fun z => (by cases z)⟩⟩
    walk_at "px"
    intro o' n' e
    cases e
    unfold ansD
    rw [hq]
  | some v =>
    obtain ⟨l, as, rfl⟩ := hk _ _ hq
    refine ⟨false, rfl, fun _ => ?_, fun z => (by cases z)⟩
    walk_at "px"
    refine we_sget .refl (we_kept .refl kC nK rfl ⟨rfl, ?_⟩)
    walk_at "px"
    refine ⟨_, hq, ?_⟩
    walk_at "px"
    refine ⟨fun h => ?_, fun h => ?_⟩
    · have h := of_decide_eq_true h
      walk_at "px"
      intro o' n' e
      cases e
      unfold ansD
      rw [hq]
      dsimp only []
      rw [if_pos h]
    · have h := of_decide_eq_false h
      walk_at "pn"
      walk_at "px"
      refine we_sget .refl (we_kept .refl kC nK rfl ⟨rfl, ?_⟩)
      walk_at "px"
      refine ⟨_, hq, ?_⟩
      walk_at "px"
      refine ⟨fun h2 => ?_, fun h2 => ?_⟩
      · have h2 := of_decide_eq_true h2
        walk_at "px"
        intro o' n' e
        cases e
        unfold ansD
        rw [hq]
        dsimp only []
        rw [if_neg h, if_pos h2]
      · have h2 := of_decide_eq_false h2
        walk_at "px"
        refine we_sget .refl (we_kept .refl kC nK rfl ⟨rfl, ?_⟩)
        walk_at "px"
        refine ⟨_, hq, ?_⟩
        walk_at "px"
        intro o' n' e
        cases e
        unfold ansD
        rw [hq]
        dsimp only []
        rw [if_neg h, if_neg h2]
theorem ok_Sessions_last (T : TX K mg w) : FnOk P w K mg base CX0 1 T.a_Sessions_last T.d_Sessions_last ["self", "origin"] (spM (seR K T) K SeM.s (fun m ds => ∃ (o : Str), ds = [.str o] ∧ KdOk m.kd) (fun m ds r m' => m' = m ∧ ∀ (o : Str), ds = [.str o] → r = .d (.int (lastD m.kd o))) fun _ _ _ => False) := by
  refine okM T.F_Sessions_last sc_Sessions_last 0 rfl (fun m ds ⟨o, e, _⟩ => by rw [e]; rfl) fun cdv A outer s H E hr => ⟨_, (pss_cons (ps_if (pt_cmp (pc_dnotin (hu_of hr) (pv 1) (pe_fldK (K := K) rfl (pv 0) rfl))) (pss_one (ps_ret pe_int)) pss_nil)
      (pss_one (ps_ret (pe_ix (ixK_tup (K := K) rfl) (pe_dget (hu_of hr) (pe_fldK (K := K) rfl (pv 0) rfl) (pv 1) (fun _ _ => rfl)) pe_int (fun _ _ => rfl))))), fun m ds hd => ?_⟩
  obtain ⟨o, rfl, hk⟩ := hd
  have kC := T.K_Sessions
  have nK := T.na_Sessions__kept
  walk_at "pn"
  walk_at "px"
  refine we_snotin .refl ?_
  walk_at "px"
  refine we_kept .refl kC nK rfl ⟨rfl, rfl, ?_⟩
  cases hq : lkK m.kd (.inr o) with
  | none =>
    refine ⟨true, rfl, fun _ => ?_, fun z => (by cases z)⟩
    walk_at "px"
    intro o' e
    cases e
    unfold lastD
    rw [hq]
  | some v =>
    obtain ⟨l, as, rfl⟩ := hk _ _ hq
    refine ⟨false, rfl, fun z => (by cases z), fun _ => ?_⟩
    walk_at "px"
    refine we_sget .refl (we_kept .refl kC nK rfl ⟨rfl, ?_⟩)
    walk_at "px"
    refine ⟨_, hq, ?_⟩
    walk_at "px"
    intro o' e
    cases e
    unfold lastD
    rw [hq]
theorem ok_Sessions_image (T : TX K mg w) : FnOk P w K mg base CX0 1 T.a_Sessions_image T.d_Sessions_image ["self"] (spM (seR K T) K SeM.s (fun m ds => ds = [] ∧ KdOk m.kd ∧ ∃ ks : List Str, m.kd.map Prod.fst = ks.map Sum.inr ∧ ks.length < 64) (fun m _ r m' => m' = m ∧ ∃ ys ks : List Str, m.kd.map Prod.fst = ks.map Sum.inr ∧ ys.Perm ks ∧ sortedS ys = true ∧ r = .d (.tuple (ys.map (rowK m.kd)))) fun _ _ _ => False) := by
  refine okM T.F_Sessions_image sc_Sessions_image 1 rfl (fun m ds ⟨e, _⟩ => by rw [e]; rfl) fun cdv A outer s H E hr => ⟨_, (pss_one (ps_ret (pe_callTy (callK_tuple (K := K) rfl) (by rfl) T.n_tuple (by decide +kernel) (pa_cons (pe_lc (own := [("origin", 1)]) (g := gName 1) (tt := tYes) (by rfl) sc_Sessions_image.nd (piK_list (K := K) rfl (pe_callB (call_sortedD rfl) (by rfl) T.n_sorted (by decide +kernel) (pa_cons (pe_fldK (K := K) rfl (pv 0) rfl) pa_nil))) (blkOk_by (own := [("origin", 1)]) (N := ["self", "origin"]) (sc := defScope s_Sessions_image) (by decide +kernel)) (fun _ _ _ _ _ => pg_name (i := 1) sc_Sessions_image.nd rfl (Or.inl rfl)) (fun _ _ _ _ _ => pts_nil) (fun _ _ _ _ _ => (pe_op (opK_catA (K := K) rfl) (pe_tup (pa_cons (pv 1) pa_nil)) (pe_dget (hu_of hr) (pe_fldK (K := K) rfl (pv 0) rfl) (pv 1) (fun _ _ => rfl))))) pa_nil)))), fun m ds hd => ?_⟩
  obtain ⟨rfl, hk, ks, hks, hl⟩ := hd
  have kC := T.K_Sessions
  have nK := T.na_Sessions__kept
  walk_at "pn"
  walk_at "px"
  refine we_lcM (by walk_at "ww") rfl ?_
  walk_at "px"
  refine we_kept .refl kC nK rfl ?_
  walk_at "px"
  refine cbP_sortS .refl ks hks hl fun ys hp hs => ?_
  walk_at "px"
  have hyl := hp.length_eq
  refine ⟨rowX m.kd, by rw [List.length_map]; omega, fun x hx => ?_, ?_⟩
  · obtain ⟨y, hy, rfl⟩ := List.mem_map.mp hx
    have hin : Sum.inr y ∈ m.kd.map Prod.fst := by rw [hks]; exact List.mem_map_of_mem (hp.mem_iff.mp hy)
    obtain ⟨v, hv⟩ := lkK_mem hin
    obtain ⟨l, as, rfl⟩ := hk _ _ hv
    walk_at "px"
    refine we_sget .refl (we_kept .refl kC nK rfl ⟨rfl, ?_⟩)
    walk_at "px"
    refine ⟨_, hv, ?_⟩
    walk_at "px"
    show Option.some [_] = some [rowK m.kd y]
    unfold rowK
    rw [hv]
    rfl
  · walk_at "px"
    refine ⟨ys, ks, hks, hp, hs, ?_⟩
    rw [List.map_map]
    rfl
end
/-! # sessions: run -/
section
variable {P : Program} {w : World} {K : PySem.W.Frag} {mg : Str → Option Value} {base : Heap}
theorem ok_Sessions___init__ (T : TX K mg w) : FnOk P w K mg base CX0 1 T.a_Sessions___init__ T.d_Sessions___init__ ["self"] (sp_senew T.a_Sessions) := by
  refine T.F_Sessions___init__.ok sc_Sessions___init__ (fun vs H Q E h => ?_) (fun cdv A outer s H vs Q E hr h => ?_)
  · obtain ⟨p, dx, rfl, _⟩ := h
    rfl
  · obtain ⟨p, dx, rfl, hp, q⟩ := h
    refine ⟨_, (pss_one (ps_fld (pv 0) pe_dnewK rfl)), ?_⟩
    have kC := T.K_Sessions
    refine fun t ht => ⟨_, rfl, p, T.a_Sessions, dx, [], rfl, ?_, kC, T.na_Sessions__kept, (by show 0 < 1000; decide), ?_⟩
    · rw [upd_ne (fun z => by rw [← z, hp] at ht; cases ht)]; exact hp
    have nt : t ≠ p := fun z => by rw [z, hp] at ht; cases ht
    refine q t _ ht ?_ ?_ fun x o hx hxp => ?_
    · rw [upd_same]; rfl
    · rw [upd_ne nt, upd_same]
    · rw [upd_ne hxp, upd_ne (ne_of_none hx ht)]
      exact hx
abbrev rsR (K : PySem.W.Frag) (T : TX K mg w) : MR (SM × SeM) := prM (sR K T) (seR K T)
def newK (m : SeM) (o : Str) (n : Int) (a : PyData) : SeM := ⟨m.s, m.d, putKD m.kd (.inr o) (.tuple [.int n, a])⟩
theorem hasA_ans {kd : KD} (h : KdOk kd) {o : Str} {n : Int} : (hasA kd o n = false → ansD kd o n = .none) ∧ (hasA kd o n = true → ∃ as, ansD kd o n = .tuple as) := by
  unfold hasA ansD
  cases hq : lkK kd (.inr o) with
  | none => exact ⟨fun _ => rfl, fun z => (by cases z)⟩
  | some v =>
    obtain ⟨l, as, rfl⟩ := h _ _ hq
    dsimp only []
    refine ⟨fun z => ?_, fun z => ?_⟩
    · have := of_decide_eq_false z
      rw [if_pos (by omega)]
    · have := of_decide_eq_true z
      rw [if_neg (by omega)]
      split
      · exact ⟨_, rfl⟩
      · exact ⟨_, rfl⟩
theorem ans_tup {m m2 : SM} {cs ps dl : List PyData} {r : Rk} (h : Ans m cs ps dl r m2) : ∃ as, r = .d (.tuple as) := by
  cases hb : (heldL m.tab cs dl).all id with
  | true => exact ⟨_, (h.1 hb).2⟩
  | false =>
    obtain ⟨_, j, e, _⟩ := h.2 hb
    exact ⟨_, e⟩
theorem ok_Sessions_run (T : TX K mg w) (TB : LamX.TabB base mg T.cc__sorted_by_key T.pp__sorted_by_key) : FnOk P w K mg base (L2.CX P w) 9 T.a_Sessions_run T.d_Sessions_run ["self", "store", "command"] (spAX (rsR K T) K
    (fun m rs => ∃ (o : Str) (n : Int) (x : PyData), rs = [.v (.ref m.2.s), .v (.ref m.1.s), .d (.tuple [.str o, .int n, x])] ∧ okx 8 x = true ∧ StoOk m.1 ∧ KdOk m.2.kd ∧ m.2.kd.length < 90000)
    (fun m rs r m' => ∀ (o : Str) (n : Int) (x : PyData), rs = [.v (.ref m.2.s), .v (.ref m.1.s), .d (.tuple [.str o, .int n, x])] → (hasA m.2.kd o n = true → r = .d (ansD m.2.kd o n) ∧ m' = m) ∧
      (hasA m.2.kd o n = false → ∃ cs ps dl a m1, x = .tuple [.tuple cs, .tuple ps, .tuple dl] ∧ isTrans x = true ∧ Ans m.1 cs ps dl (.d a) m1 ∧ r = .d a ∧ m' = (m1, newK m.2 o n a)))
    fun m rs C m' => m' = m ∧ C = T.a_BadTransaction ∧ ∃ (o : Str) (n : Int) (x : PyData), rs = [.v (.ref m.2.s), .v (.ref m.1.s), .d (.tuple [.str o, .int n, x])] ∧ isTrans x = false ∧ hasA m.2.kd o n = false) := by
  refine okAX T.F_Sessions_run sc_Sessions_run 4 rfl (fun m rs ⟨_, _, _, e, _⟩ => by rw [e]; rfl) fun cdv A outer s H E hr => ⟨_, (pss_cons (ps_asg (pv 2) (pgK_tup (K := K) (n := 3) rfl rfl (pgs_cons (pg_name (i := 3) sc_Sessions_run.nd rfl (Or.inl rfl)) (pgs_cons (pg_name (i := 4) sc_Sessions_run.nd rfl (Or.inl rfl)) (pgs_cons (pg_name (i := 5) sc_Sessions_run.nd rfl (Or.inl rfl)) pgs_nil)))))
      (pss_cons (ps_set (i := 6) sc_Sessions_run.nd rfl (Or.inl rfl) (pe_meth (pv 0) T.K_Sessions T.m_Sessions_answer (ok_Sessions_answer T) (hr.mono (by decide)) T.b_Sessions_answer .nil pass0 (pa_cons (pv 3) (pa_cons (pv 4) pa_nil))))
      (pss_cons (ps_if (pt_cmpR op_isN1 (pv 6) pe_non (nomark _)) (pss_cons (ps_set (i := 6) sc_Sessions_run.nd rfl (Or.inl rfl) (pe_meth (pv 1) T.K_Store T.m_Store_apply (ok_Store_apply T TB) (hr.mono (by decide)) T.b_Store_apply .nil (passes_call (takes_of rfl rfl rfl rfl) (fun _ _ _ _ h => h)) (pa_cons (pv 5) pa_nil)))
        (pss_one (ps_dput (hu_of hr) (pe_fldK (K := K) rfl (pv 0) rfl) (pv 3) (pe_tup (pa_cons (pv 4) (pa_cons (pv 6) pa_nil))) rfl))) pss_nil)
      (pss_one (ps_ret (pv 6)))))), fun m rs hd => ?_⟩
  obtain ⟨o, n, x, rfl, ho, hs, hk, hl⟩ := hd
  have kC := T.K_Sessions
  have nK := T.na_Sessions__kept
  have L1 : Part (rsR K T) (sR K T) (fun m => m.1) (fun m a => (a, m.2)) := Part.left
  have L2 : Part (rsR K T) (seR K T) (fun m => m.2) (fun m a => (m.1, a)) := Part.right
  walk_at "pn"
  walk_at "px"
  refine we_methP (at_ := SeM.s) L2 (clsSes fun _ => rfl) rfl ?_
  walk_at "px"
  refine ⟨⟨_, _, rfl, hk⟩, fun _ z => z, fun r m2 ⟨em, er⟩ => ?_⟩
  have er := er _ _ rfl
  subst em er
  refine ⟨True.intro, ?_⟩
  show WS _ K E _ [.v (.ref m.2.s), .v (.ref m.1.s), .d (.tuple [.str o, .int n, x]), .d (.str o), .d (.int n), .d x, .d (ansD m.2.kd o n)] m _ _ _ _ _
  obtain ⟨hA0, hA1⟩ := hasA_ans hk (o := o) (n := n)
  cases hA : hasA m.2.kd o n with
  | true =>
    obtain ⟨as, e⟩ := hA1 hA
    rw [e]
    walk_at "pn"
    walk_at "px"
    intro o' n' x' e'
    cases e'
    rw [hA, e]
    exact ⟨fun _ => ⟨rfl, rfl⟩, fun z => (by cases z)⟩
  | false =>
    rw [hA0 hA]
    walk_at "pn"
    walk_at "px"
    refine we_methPX (at_ := SM.s) L1 (clsS fun _ => rfl) rfl ?_
    walk_at "px"
    refine ⟨⟨_, rfl, ho, hs⟩, fun D ⟨eD, x1, e1, e2⟩ => ?_, fun r m2 ⟨cs, ps, dl, e1, e2, hans⟩ => ?_⟩
    · cases e1
      exact ⟨⟨rfl, eD, _, _, _, rfl, e2, hA⟩, rfl⟩
    · cases e1
      obtain ⟨as, rfl⟩ := ans_tup hans
      refine ⟨True.intro, ?_⟩
      walk_at "pn"
      refine ws_sput L2 ?_
      walk_at "px"
      refine we_kept L2 kC nK rfl ⟨rfl, ?_⟩
      walk_at "px"
      intro o' n' x' e'
      cases e'
      exact ⟨fun z => (by rw [hA] at z; cases z), fun _ => ⟨cs, ps, dl, _, _, rfl, e2, hans, rfl, rfl⟩⟩
end
/-! # what is kept, as rows in order -/
abbrev KRow := Str × Int × List PyData
def rowD (r : KRow) : PyData := .tuple [.str r.1, .int r.2.1, .tuple r.2.2]
def keptR (ks : List KRow) (z : Str) : KRow := (ks.find? fun r => decide (r.1 = z)).getD (z, 0, [])
def ltS (a b : Str) : Bool := decide (a.cps.toList < b.cps.toList)
def keepR (ks : List KRow) (e : KRow) : List KRow := (ks.filter fun r => ltS r.1 e.1) ++ [e] ++ ks.filter fun r => ltS e.1 r.1
theorem ltS_irr (a : Str) : ltS a a = false := decide_eq_false (List.lt_irrefl _)
theorem ltS_trans {a b c : Str} (h : ltS a b = true) (g : ltS b c = true) : ltS a c = true := decide_eq_true (List.lt_trans (of_decide_eq_true h) (of_decide_eq_true g))
theorem ltS_asym {a b : Str} (h : ltS a b = true) : ltS b a = false := by
  rw [Bool.eq_false_iff]
  intro g
  have := ltS_trans h g
  rw [ltS_irr] at this; cases this
theorem ltS_tri (a b : Str) : ltS a b = true ∨ a = b ∨ ltS b a = true := by
  rcases str_tri a b with h | h | h
  · exact .inl (decide_eq_true h)
  · exact .inr (.inl h)
  · exact .inr (.inr (decide_eq_true h))
theorem rising_pw : ∀ {p : Str} {l : List Str}, risingS p l = true → (p :: l).Pairwise fun a b => ltS b a = false
  | p, [], _ => List.pairwise_singleton _ _
  | p, x :: r, h => by
    unfold risingS at h
    rw [Bool.and_eq_true, Bool.not_eq_true', PyProof.Rows.ltCps_eq] at h
    have ih := rising_pw h.2
    have hx : ltS x p = false := h.1
    refine List.pairwise_cons.mpr ⟨fun b hb => ?_, ih⟩
    rcases List.mem_cons.mp hb with rfl | hb
    · exact hx
    · have h2 := (List.pairwise_cons.mp ih).1 b hb
      rw [Bool.eq_false_iff]
      intro z
      rcases ltS_tri x p with g | g | g
      · rw [g] at hx; cases hx
      · rw [g, z] at h2; cases h2
      · rw [ltS_trans z g] at h2; cases h2
theorem sorted_pw {l : List Str} (h : sortedS l = true) : l.Pairwise fun a b => ltS b a = false := by
  cases l with
  | nil => exact .nil
  | cons p r => exact rising_pw h
theorem lkK_cons {z : Key × PyData} {ks : KD} {j : Key} : lkK (z :: ks) j = if z.1 = j then some z.2 else lkK ks j := by
  unfold lkK
  rw [List.find?_cons]
  by_cases e : z.1 = j
  · rw [if_pos e, decide_eq_true e]; rfl
  · rw [if_neg e, decide_eq_false e]
theorem lkK_none {k : Key} : ∀ {kd : KD}, k ∉ kd.map Prod.fst → lkK kd k = none
  | [], _ => rfl
  | z :: kd, h => by
    rw [List.map_cons, List.mem_cons, not_or] at h
    rw [lkK_cons, if_neg (Ne.symm h.1)]
    exact lkK_none h.2
theorem lkK_in {k : Key} {kd : KD} {v : PyData} (h : lkK kd k = some v) : k ∈ kd.map Prod.fst := Classical.byContradiction fun z => by rw [lkK_none z] at h; cases h
theorem putKD_keys {kd : KD} {k : Key} {d : PyData} : (k ∈ kd.map Prod.fst → (putKD kd k d).map Prod.fst = kd.map Prod.fst) ∧ (k ∉ kd.map Prod.fst → (putKD kd k d).map Prod.fst = kd.map Prod.fst ++ [k]) := by
  have hany : (kd.any fun z => decide (z.1 = k)) = true ↔ k ∈ kd.map Prod.fst := by
    rw [List.any_eq_true, List.mem_map]
    exact ⟨fun ⟨z, hz, e⟩ => ⟨z, hz, of_decide_eq_true e⟩, fun ⟨z, hz, e⟩ => ⟨z, hz, decide_eq_true e⟩⟩
  unfold putKD
  refine ⟨fun h => ?_, fun h => ?_⟩
  · rw [if_pos (hany.mpr h), List.map_map]
    refine List.map_congr_left fun z _ => ?_
    show (if z.1 = k then (z.1, d) else z).1 = z.1
    split <;> rfl
  · rw [if_neg (fun z => h (hany.mp z)), List.map_append]; rfl
theorem lkK_put {k j : Key} {d : PyData} : ∀ {kd : KD}, lkK (putKD kd k d) j = if j = k then some d else lkK kd j := fun {kd} => by
  unfold putKD
  by_cases ha : (kd.any fun z => decide (z.1 = k)) = true
  · rw [if_pos ha]
    have key : ∀ l : KD, lkK (l.map fun z => if z.1 = k then (z.1, d) else z) j = if j = k then (if (l.any fun z => decide (z.1 = k)) = true then some d else none) else lkK l j := fun l => by
      induction l with
      | nil => simp [lkK]
      | cons y l ih =>
        rw [List.map_cons, lkK_cons, ih, List.any_cons, lkK_cons]
        by_cases e : y.1 = k
        · rw [if_pos e, decide_eq_true e]
          by_cases e2 : j = k
          · rw [if_pos (show y.1 = j from e.trans e2.symm), if_pos e2]; simp
          · rw [if_neg (show ¬ y.1 = j from fun u => e2 (u.symm.trans e)), if_neg e2, if_neg e2, if_neg (show ¬ y.1 = j from fun u => e2 (u.symm.trans e))]
        · rw [if_neg e, decide_eq_false e, Bool.false_or]
          by_cases e2 : j = k
          · rw [if_neg (show ¬ y.1 = j from fun u => e (u.trans e2)), if_pos e2, if_pos e2]
          · rw [if_neg e2, if_neg e2]
    rw [key, if_pos ha]
  · rw [if_neg ha]
    have hn : ∀ z ∈ kd, z.1 ≠ k := fun z hz e => ha (List.any_eq_true.mpr ⟨z, hz, decide_eq_true e⟩)
    clear ha
    induction kd with
    | nil =>
      rw [List.nil_append, lkK_cons]
      by_cases e : j = k
      · rw [if_pos e, if_pos e.symm]
      · rw [if_neg e, if_neg (fun y => e y.symm)]
    | cons y l ih =>
      rw [List.cons_append, lkK_cons, lkK_cons, ih fun z hz => hn z (List.mem_cons_of_mem _ hz)]
      by_cases e : j = k
      · rw [if_pos e, if_neg (fun u => hn y List.mem_cons_self (u.trans e)), if_pos e]
      · rw [if_neg e, if_neg e]
structure InvK (kd : KD) (ks : List KRow) : Prop where
  asc : (ks.map Prod.fst).Pairwise fun a b => ltS a b = true
  keys : ∃ os : List Str, kd.map Prod.fst = os.map Sum.inr ∧ os.Nodup ∧ ∀ z, z ∈ os ↔ z ∈ ks.map Prod.fst
  lk : ∀ r ∈ ks, lkK kd (.inr r.1) = some (.tuple [.int r.2.1, .tuple r.2.2])
theorem asc_nodup {os : List Str} (h : os.Pairwise fun a b => ltS a b = true) : os.Nodup := h.imp fun {a b} g e => by rw [e, ltS_irr] at g; cases g
theorem InvK.get {kd : KD} {ks : List KRow} (h : InvK kd ks) (z : Str) : lkK kd (.inr z) = (ks.find? fun r => decide (r.1 = z)).map fun r => .tuple [.int r.2.1, .tuple r.2.2] := by
  cases hq : ks.find? fun r => decide (r.1 = z) with
  | some r =>
    have h1 := h.lk r (List.mem_of_find?_eq_some hq)
    have h2 : r.1 = z := of_decide_eq_true (List.find?_some (p := fun r : KRow => decide (r.1 = z)) hq)
    rw [h2] at h1
    exact h1
  | none =>
    obtain ⟨os, e, _, hm⟩ := h.keys
    refine lkK_none fun hin => ?_
    rw [e, List.mem_map] at hin
    obtain ⟨y, hy, e2⟩ := hin
    cases e2
    obtain ⟨r, hr, e3⟩ := List.mem_map.mp ((hm _).mp hy)
    exact List.find?_eq_none.mp hq r hr (decide_eq_true e3)
theorem InvK.ok {kd : KD} {ks : List KRow} (h : InvK kd ks) : KdOk kd := fun k v hv => by
  obtain ⟨os, e, _, hm⟩ := h.keys
  have hin := lkK_in hv
  rw [e, List.mem_map] at hin
  obtain ⟨y, hy, rfl⟩ := hin
  rw [h.get] at hv
  cases hq : ks.find? fun r => decide (r.1 = y) with
  | none => rw [hq] at hv; cases hv
  | some r =>
    rw [hq] at hv
    cases hv
    exact ⟨_, _, rfl⟩
theorem InvK.image {kd : KD} {ks : List KRow} (h : InvK kd ks) {ys os : List Str} (e : kd.map Prod.fst = os.map Sum.inr) (hp : ys.Perm os) (hs : sortedS ys = true) : ys.map (rowK kd) = ks.map rowD := by
  obtain ⟨os', e', hn, hm⟩ := h.keys
  have eo : os = os' := (List.map_inj_right fun x y z => Sum.inr.inj z).mp (e.symm.trans e')
  subst eo
  have hys : ys = ks.map Prod.fst := by
    refine List.Perm.eq_of_pairwise (le := fun a b => ltS b a = false) (fun a b _ _ g1 g2 => ?_) (sorted_pw hs) (h.asc.imp fun {a b} g => ltS_asym g) (hp.trans ((List.perm_ext_iff_of_nodup hn (asc_nodup h.asc)).mpr hm))
    rcases ltS_tri a b with z | z | z
    · rw [z] at g2; cases g2
    · exact z
    · rw [z] at g1; cases g1
  rw [hys, List.map_map]
  refine List.map_congr_left fun r hr => ?_
  show rowK kd r.1 = rowD r
  unfold rowK
  rw [h.lk r hr]
  rfl
theorem keep_len {ks : List KRow} {e : KRow} : (keepR ks e).length ≤ ks.length + 1 := by
  have h : ∀ ys : List KRow, (ys.filter fun r => ltS r.1 e.1).length + (ys.filter fun r => ltS e.1 r.1).length ≤ ys.length := fun ys => by
    induction ys with
    | nil => exact Nat.le_refl _
    | cons y ys ih =>
      rw [List.filter_cons, List.filter_cons]
      cases h1 : ltS y.1 e.1 with
      | true =>
        rw [ltS_asym h1]
        simp only [if_true, Bool.false_eq_true, if_false, List.length_cons]
        omega
      | false =>
        cases h2 : ltS e.1 y.1 with
        | true =>
          simp only [if_true, Bool.false_eq_true, if_false, List.length_cons]
          omega
        | false =>
          simp only [Bool.false_eq_true, if_false, List.length_cons]
          omega
  unfold keepR
  rw [List.length_append, List.length_append]
  show _ + 1 + _ ≤ _
  have := h ks
  omega
theorem mem_keep {ks : List KRow} {e r : KRow} : r ∈ keepR ks e ↔ r = e ∨ (r ∈ ks ∧ r.1 ≠ e.1) := by
  unfold keepR
  rw [List.mem_append, List.mem_append, List.mem_filter, List.mem_filter, List.mem_singleton]
  constructor
  · rintro ((⟨h1, h2⟩ | h) | ⟨h1, h2⟩)
    · exact .inr ⟨h1, fun z => by rw [z, ltS_irr] at h2; cases h2⟩
    · exact .inl h
    · exact .inr ⟨h1, fun z => by rw [z, ltS_irr] at h2; cases h2⟩
  · rintro (h | ⟨h1, h2⟩)
    · exact .inl (.inr h)
    · rcases ltS_tri r.1 e.1 with z | z | z
      · exact .inl (.inl ⟨h1, z⟩)
      · exact absurd z h2
      · exact .inr ⟨h1, z⟩
theorem keep_asc {ks : List KRow} {e : KRow} (h : (ks.map Prod.fst).Pairwise fun a b => ltS a b = true) : ((keepR ks e).map Prod.fst).Pairwise fun a b => ltS a b = true := by
  rw [List.pairwise_map] at h ⊢
  unfold keepR
  rw [List.append_assoc, List.pairwise_append]
  refine ⟨h.filter _, ?_, fun a ha b hb => ?_⟩
  · rw [List.singleton_append, List.pairwise_cons]
    exact ⟨fun b hb => (List.mem_filter.mp hb).2, h.filter _⟩
  · have h1 := (List.mem_filter.mp ha).2
    rw [List.singleton_append] at hb
    rcases List.mem_cons.mp hb with rfl | hb
    · exact h1
    · exact ltS_trans h1 (List.mem_filter.mp hb).2
theorem InvK.put {kd : KD} {ks : List KRow} (h : InvK kd ks) (o : Str) (n : Int) (as : List PyData) : InvK (putKD kd (.inr o) (.tuple [.int n, .tuple as])) (keepR ks (o, n, as)) := by
  obtain ⟨os, e, hn, hm⟩ := h.keys
  have hin : (Sum.inr o : Key) ∈ kd.map Prod.fst ↔ o ∈ os := by
    rw [e, List.mem_map]
    exact ⟨fun ⟨y, hy, e2⟩ => (by cases e2; exact hy), fun z => ⟨o, z, rfl⟩⟩
  have hk : ∀ z, z ∈ (keepR ks (o, n, as)).map Prod.fst ↔ z = o ∨ z ∈ ks.map Prod.fst := fun z => by
    rw [List.mem_map, List.mem_map]
    constructor
    · rintro ⟨r, hr, rfl⟩
      rcases mem_keep.mp hr with rfl | hr
      · exact .inl rfl
      · exact .inr ⟨r, hr.1, rfl⟩
    · rintro (rfl | ⟨r, hr, rfl⟩)
      · exact ⟨_, mem_keep.mpr (.inl rfl), rfl⟩
      · by_cases g : r.1 = o
        · exact ⟨(o, n, as), mem_keep.mpr (.inl rfl), g.symm⟩
        · exact ⟨r, mem_keep.mpr (.inr ⟨hr, g⟩), rfl⟩
  refine ⟨keep_asc h.asc, ?_, fun r hr => ?_⟩
  · by_cases g : o ∈ os
    · refine ⟨os, by rw [putKD_keys.1 (hin.mpr g), e], hn, fun z => ?_⟩
      rw [hk, hm]
      exact ⟨.inr, fun y => y.elim (fun y => by rw [y]; exact (hm o).mp g) id⟩
    · refine ⟨os ++ [o], by rw [putKD_keys.2 (fun z => g (hin.mp z)), e, List.map_append]; rfl, List.nodup_append.mpr ⟨hn, by simp, fun a ha b hb y => ?_⟩, fun z => ?_⟩
      · rw [List.mem_singleton] at hb
        exact g (by rw [← hb, ← y]; exact ha)
      · rw [hk, List.mem_append, List.mem_singleton, hm]
        exact or_comm
  · rw [lkK_put]
    rcases mem_keep.mp hr with rfl | ⟨h1, h2⟩
    · rw [if_pos rfl]
    · rw [if_neg (fun z => h2 (Sum.inr.inj z))]
      exact h.lk r h1
theorem InvK.nil : InvK [] [] := ⟨.nil, ⟨[], rfl, .nil, fun _ => Iff.rfl⟩, fun _ h => by cases h⟩
theorem rowD_inj (x y : KRow) (h : rowD x = rowD y) : x = y := by
  obtain ⟨a, b, c⟩ := x
  obtain ⟨d, e, f⟩ := y
  cases h
  rfl
theorem rows_inj {xs ys : List KRow} (h : xs.map rowD = ys.map rowD) : xs = ys := (List.map_inj_right rowD_inj).mp h
def frO : PyData → Str
  | .tuple (.str a :: _) => a
  | _ => ⟨#[]⟩
theorem row_at {ks : List KRow} {i : Nat} {x : PyData} (h : (ks.map rowD)[i]? = some x) : ∃ r, ks[i]? = some r ∧ x = .tuple [.str r.1, .int r.2.1, .tuple r.2.2] := by
  rw [List.getElem?_map] at h
  cases hq : ks[i]? with
  | none => rw [hq] at h; cases h
  | some r =>
    rw [hq] at h
    exact ⟨r, rfl, (Option.some.inj h).symm⟩
section
variable {P : Program} {w : World} {K : PySem.W.Frag} {mg : Str → Option Value} {base : Heap}
theorem ok__law_kept (T : TX K mg w) : FnOk P w K mg base CX0 1 T.a__law_kept T.d__law_kept ["kept", "origin"] (spP K (P2 fun e o => ∃ (ks : List KRow) (z : Str), e = .list (ks.map rowD) ∧ o = .str z ∧ ks.length ≤ 1000) (fun as r => ∀ (ks : List KRow) (z : Str), as = [.list (ks.map rowD), .str z] → r = .d (.tuple [.str (keptR ks z).1, .int (keptR ks z).2.1, .tuple (keptR ks z).2.2]))) := by
  refine okP T.F__law_kept sc__law_kept 1 rfl P2.len fun cdv A outer s H E hr => ⟨_, (pss_cons (ps_for PassesOwn.never rfl (piK_list (K := K) rfl (pv 0)) (pg_name (i := 2) sc__law_kept.nd rfl (Or.inl rfl))
        (pss_one (ps_if (pt_cmpR op_eq (pe_ix (ixK_tup (K := K) rfl) (pv 2) pe_int (fun _ _ => rfl)) (pv 1) (nomark _)) (pss_one (ps_ret (pv 2))) pss_nil)))
      (pss_one (ps_ret (pe_tup (pa_cons (pv 1) (pa_cons pe_int (pa_cons (pe_tup pa_nil) pa_nil))))))), fun ds hd => ?_⟩
  obtain ⟨_, _, rfl, ks, z, rfl, rfl, hl⟩ := hd
  have hll : (ks.map rowD).length ≤ 1000 := by rw [List.length_map]; exact hl
  walk_at "pn"
  walk_at "px"
  refine ws_for ?_
  walk_at "px"
  refine ⟨Unit, fun _ => [.d (.list (ks.map rowD)), .d (.str z), .u], fun _ => (), fun i _ => (ks.take i).find? (fun r => decide (r.1 = z)) = none, nxt () (by walk_at "wk") rfl rfl, fun i x s hx hI => ?_, fun s hI => ?_⟩
  · have hI : (ks.take i).find? (fun r => decide (r.1 = z)) = none := hI
    obtain ⟨⟨o, n, as⟩, hr1, rfl⟩ := row_at hx
    clear hx
    have nh : ¬ o = z → (ks.take (i + 1)).find? (fun r => decide (r.1 = z)) = none := fun y => by
      rw [take_succ_app hr1, List.find?_append, hI]
      simp [y]
    have hh : o = z → keptR ks z = (o, n, as) := fun y => by
      unfold keptR
      have e : ks = ks.take i ++ (o, n, as) :: ks.drop (i + 1) := by
        have h1 := (List.getElem?_eq_some_iff.mp hr1)
        have := List.take_append_drop i ks
        rw [List.drop_eq_getElem_cons h1.1, h1.2] at this
        exact this.symm
      rw [e, List.find?_append, hI]
      simp [y]
    dsimp only []
    walk_at "pn"
    walk_at "px"
    refine ⟨fun h1 => ?_, fun h1 => ?_⟩
    · have h1 := of_decide_eq_true h1
      walk_at "px"
      refine ⟨fun ks' z' e => ?_, True.intro⟩
      obtain ⟨e1, e2⟩ : ks.map rowD = ks'.map rowD ∧ z = z' := by
        simp only [List.cons.injEq, PyData.list.injEq, PyData.str.injEq, and_true] at e
        exact e
      rw [← rows_inj e1, ← e2, hh h1]
    · have h1 := of_decide_eq_false h1
      walk_at "px"
      exact nxt () (by walk_at "wk") rfl (nh h1)
  · have hI : (ks.take (ks.map rowD).length).find? (fun r => decide (r.1 = z)) = none := hI
    rw [List.length_map, List.take_length] at hI
    walk_at "pn"
    walk_at "px"
    refine ⟨fun ks' z' e => ?_, True.intro⟩
    obtain ⟨e1, e2⟩ : ks.map rowD = ks'.map rowD ∧ z = z' := by
      simp only [List.cons.injEq, PyData.list.injEq, PyData.str.injEq, and_true] at e
      exact e
    rw [← rows_inj e1, ← e2]
    unfold keptR
    rw [hI]
    rfl
theorem filt_rows {ks : List KRow} {f : Str → Bool} : ((ks.map rowD).filter fun x => f (frO x)).map (fun x => x) = (ks.filter fun r => f r.1).map rowD := by
  rw [List.map_id', List.filter_map]
  rfl
theorem ok__law_keep (T : TX K mg w) : FnOk P w K mg base CX0 1 T.a__law_keep T.d__law_keep ["kept", "entry"] (spP K (P2 fun e x => ∃ (ks : List KRow) (o : Str) (n : Int) (as : List PyData), e = .list (ks.map rowD) ∧ x = .tuple [.str o, .int n, .tuple as] ∧ ks.length ≤ 1000) (fun as r => ∀ (ks : List KRow) (o : Str) (n : Int) (bs : List PyData), as = [.list (ks.map rowD), .tuple [.str o, .int n, .tuple bs]] → r = .o ((keepR ks (o, n, bs)).map rowD))) := by
  refine okP T.F__law_keep sc__law_keep 3 rfl P2.len fun cdv A outer s H E hr => ⟨_, (pss_cons (ps_setLc (i := 2) (own := [("one", 4)]) (g := gName 4)  (by rfl) sc__law_keep.nd rfl rfl (sw_true rfl rfl rfl (by decide +kernel)) (piK_list (K := K) rfl (pv 0)) (blkOk_by (own := [("one", 4)]) (N := ["kept", "entry", "before", "after", "one"]) (sc := defScope s__law_keep) (by decide +kernel)) (fun _ _ _ _ _ => pg_name (i := 4) sc__law_keep.nd rfl (Or.inl rfl)) (fun _ _ _ _ _ => pts_one (pt_cmpR op_ltS (pe_ix (ixK_tup (K := K) rfl) (pv 4) pe_int (fun _ _ => rfl)) (pe_ix (ixK_tup (K := K) rfl) (pv 1) pe_int (fun _ _ => rfl)) (nomark _))) (fun _ _ _ _ _ => (pv 4)))
      (pss_cons (ps_setLc (i := 3) (own := [("one", 4)]) (g := gName 4)  (by rfl) sc__law_keep.nd rfl rfl (sw_true rfl rfl rfl (by decide +kernel)) (piK_list (K := K) rfl (pv 0)) (blkOk_by (own := [("one", 4)]) (N := ["kept", "entry", "before", "after", "one"]) (sc := defScope s__law_keep) (by decide +kernel)) (fun _ _ _ _ _ => pg_name (i := 4) sc__law_keep.nd rfl (Or.inl rfl)) (fun _ _ _ _ _ => pts_one (pt_cmpR op_gtS (pe_ix (ixK_tup (K := K) rfl) (pv 4) pe_int (fun _ _ => rfl)) (pe_ix (ixK_tup (K := K) rfl) (pv 1) pe_int (fun _ _ => rfl)) (nomark _))) (fun _ _ _ _ _ => (pv 4)))
      (pss_one (ps_ret (pe_op op_cat (pe_op op_cat (pv 2) (pe_lst (pa_cons (pv 1) pa_nil))) (pv 3)))))), fun ds hd => ?_⟩
  obtain ⟨_, _, rfl, ks, o, n, as, rfl, rfl, hl⟩ := hd
  have hll : (ks.map rowD).length ≤ 1000 := by rw [List.length_map]; exact hl
  walk_at "pn"
  refine ws_seq (ws_asg (we_lcF (by walk_at "ww") rfl ?_))
  walk_at "px"
  refine ⟨fun r => r, fun r => ltS (frO r) o, by omega, fun r hr => ?_, ?_⟩
  · obtain ⟨⟨a, b, c⟩, _, rfl⟩ := List.mem_map.mp hr
    show WG _ K E _ _ _ _ (.tuple [.str a, .int b, .tuple c]) _
    walk_at "px"
    intro _
    walk_at "px"
    exact rfl
  rw [filt_rows (f := fun a => ltS a o)]
  walk_at "pn"
  refine ws_seq (ws_asg (we_lcF (by walk_at "ww") rfl ?_))
  walk_at "px"
  refine ⟨fun r => r, fun r => ltS o (frO r), by omega, fun r hr => ?_, ?_⟩
  · obtain ⟨⟨a, b, c⟩, _, rfl⟩ := List.mem_map.mp hr
    show WG _ K E _ _ _ _ (.tuple [.str a, .int b, .tuple c]) _
    walk_at "px"
    intro _
    walk_at "px"
    exact rfl
  rw [filt_rows (f := fun a => ltS o a)]
  have l1 : ((ks.filter fun r => ltS r.1 o).map rowD).length ≤ ks.length := by rw [List.length_map]; exact List.length_filter_le _ _
  have l2 : ((ks.filter fun r => ltS o r.1).map rowD).length ≤ ks.length := by rw [List.length_map]; exact List.length_filter_le _ _
  walk_at "pn"
  walk_at "px"
  refine opP_cat rfl rfl (by show _ + 1 ≤ _; omega) ?_
  walk_at "px"
  refine opP_cat rfl rfl (by rw [List.length_append]; show _ + 1 + _ ≤ _; omega) ?_
  refine ⟨fun ks' o' n' bs e => ?_, True.intro⟩
  simp only [List.cons.injEq, PyData.list.injEq, PyData.tuple.injEq, PyData.str.injEq, PyData.int.injEq, and_true] at e
  obtain ⟨e1, rfl, rfl, rfl⟩ := e
  rw [← rows_inj e1]
  unfold keepR
  rw [List.map_append, List.map_append]
  rfl
end
/-! # what the law expects -/
def stD (E : List PyData) (rev : Int) (ks : List KRow) : PyData := .tuple [.list E, .int rev, .list (ks.map rowD)]
def expD (E : List PyData) (rev : Int) (ks : List KRow) (o : Str) (n : Int) (cs ps dl : List PyData) : PyData :=
  if n < (keptR ks o).2.1 then .tuple [stD E rev ks, .tuple [.str "old"]]
  else if n = (keptR ks o).2.1 then .tuple [stD E rev ks, .tuple (keptR ks o).2.2]
  else if firstF (okL E cs dl) < 0 then
    if (ps ++ dl).isEmpty = true then .tuple [stD E rev (keepR ks (o, n, [.str "done", .int rev])), .tuple [.str "done", .int rev]]
    else .tuple [stD (doneR E (rev + 1) ps dl) (rev + 1) (keepR ks (o, n, [.str "done", .int (rev + 1)])), .tuple [.str "done", .int (rev + 1)]]
  else .tuple [stD E rev (keepR ks (o, n, [.str "no", .int (firstF (okL E cs dl))])), .tuple [.str "no", .int (firstF (okL E cs dl))]]
theorem eqv_tnil {xs : List PyData} : PyData.eqv (.tuple xs) (.tuple []) = xs.isEmpty := by
  cases xs <;> simp [PyData.eqv, PyData.eqvAll]
section
variable {P : Program} {w : World} {K : PySem.W.Frag} {mg : Str → Option Value} {base : Heap}
theorem ok__law_expected (T : TX K mg w) : FnOk P w K mg base CX0 4 T.a__law_expected T.d__law_expected ["state", "command"] (spP K (P2 fun s c => ∃ E rev ks o n cs ps dl, s = stD E rev ks ∧ c = .tuple [.str o, .int n, .tuple [.tuple cs, .tuple ps, .tuple dl]] ∧ GoodE E ∧ GoodT cs ps dl ∧ ks.length ≤ 100)
    (fun as r => ∀ E rev ks o n cs ps dl, as = [stD E rev ks, .tuple [.str o, .int n, .tuple [.tuple cs, .tuple ps, .tuple dl]]] → r = .d (expD E rev ks o n cs ps dl))) := by
  refine okP T.F__law_expected sc__law_expected 9 rfl P2.len fun cdv A outer s H Ex hr => ⟨_, (pss_cons (ps_asg (pv 1) (pgK_tup (K := K) (n := 3) rfl rfl (pgs_cons (pg_name (i := 2) sc__law_expected.nd rfl (Or.inl rfl)) (pgs_cons (pg_name (i := 3) sc__law_expected.nd rfl (Or.inl rfl)) (pgs_cons (pg_name (i := 4) sc__law_expected.nd rfl (Or.inl rfl)) pgs_nil)))))
      (pss_cons (ps_asg (pv 0) (pgK_tup (K := K) (n := 3) rfl rfl (pgs_cons (pg_name (i := 5) sc__law_expected.nd rfl (Or.inl rfl)) (pgs_cons (pg_name (i := 6) sc__law_expected.nd rfl (Or.inl rfl)) (pgs_cons (pg_name (i := 7) sc__law_expected.nd rfl (Or.inl rfl)) pgs_nil)))))
      (pss_cons (ps_set (i := 8) sc__law_expected.nd rfl (Or.inl rfl) (pe_call (ok__law_kept T) (hr.mono (by decide)) (by rfl) T.g__law_kept T.F__law_kept.kp T.b__law_kept .nil pass0 (pa_cons (pv 7) (pa_cons (pv 2) pa_nil))))
      (pss_cons (ps_if (pt_cmpR op_lt (pv 3) (pe_ix (ixK_tup (K := K) rfl) (pv 8) pe_int (fun _ _ => rfl)) (nomark _)) (pss_one (ps_ret (pe_tup (pa_cons (pv 0) (pa_cons (pe_tup (pa_cons pe_str pa_nil)) pa_nil))))) pss_nil)
      (pss_cons (ps_if (pt_cmpR op_eq (pv 3) (pe_ix (ixK_tup (K := K) rfl) (pv 8) pe_int (fun _ _ => rfl)) (nomark _)) (pss_one (ps_ret (pe_tup (pa_cons (pv 0) (pa_cons (pe_ix (ixK_tup (K := K) rfl) (pv 8) pe_int (fun _ _ => rfl)) pa_nil))))) pss_nil)
      (pss_cons (ps_set (i := 9) sc__law_expected.nd rfl (Or.inl rfl) (pe_call (ok__law_failing T) (hr.mono (by decide)) (by rfl) T.g__law_failing T.F__law_failing.kp T.b__law_failing .nil pass0 (pa_cons (pv 5) (pa_cons (pv 4) pa_nil))))
      (pss_cons (ps_set (i := 10) sc__law_expected.nd rfl (Or.inl rfl) (pe_tup (pa_cons pe_str (pa_cons (pv 9) pa_nil))))
      (pss_cons (ps_if (pt_cmpR op_lt (pv 9) pe_int (nomark _)) (pss_cons (ps_if (pt_cmpR (opK_neD (K := K) rfl hr.units) (pe_op (opK_catA (K := K) rfl) (pe_ix (ixK_tup (K := K) rfl) (pv 4) pe_int (fun _ _ => rfl)) (pe_ix (ixK_tup (K := K) rfl) (pv 4) pe_int (fun _ _ => rfl))) (pe_tup pa_nil) (nomark _)) (pss_cons (ps_set (i := 6) sc__law_expected.nd rfl (Or.inl rfl) (pe_op op_add (pv 6) pe_int))
          (pss_one (ps_set (i := 5) sc__law_expected.nd rfl (Or.inl rfl) (pe_call (ok__law_done T) (hr.mono (by decide)) (by rfl) T.g__law_done T.F__law_done.kp T.b__law_done .nil pass0 (pa_cons (pv 5) (pa_cons (pv 6) (pa_cons (pv 4) pa_nil))))))) pss_nil)
        (pss_one (ps_set (i := 10) sc__law_expected.nd rfl (Or.inl rfl) (pe_tup (pa_cons pe_str (pa_cons (pv 6) pa_nil)))))) pss_nil)
      (pss_one (ps_ret (pe_tup (pa_cons (pe_tup (pa_cons (pv 5) (pa_cons (pv 6) (pa_cons (pe_call (ok__law_keep T) (hr.mono (by decide)) (by rfl) T.g__law_keep T.F__law_keep.kp T.b__law_keep .nil pass0 (pa_cons (pv 7) (pa_cons (pe_tup (pa_cons (pv 2) (pa_cons (pv 3) (pa_cons (pv 10) pa_nil)))) pa_nil))) pa_nil)))) (pa_cons (pv 10) pa_nil))))))))))))), fun ds hd => ?_⟩
  obtain ⟨_, _, rfl, E, rev, ks, o, n, cs, ps, dl, rfl, rfl, hE, hg, hl⟩ := hd
  have hEl := hE.l
  have hEo := hE.o
  have hlp := hg.lp
  have hld := hg.ld
  have fin : ∀ r : Rk, r = .d (expD E rev ks o n cs ps dl) → (∀ E' rev' ks' o' n' cs' ps' dl', [stD E rev ks, .tuple [.str o, .int n, .tuple [.tuple cs, .tuple ps, .tuple dl]]] = [stD E' rev' ks', .tuple [.str o', .int n', .tuple [.tuple cs', .tuple ps', .tuple dl']]] → r = .d (expD E' rev' ks' o' n' cs' ps' dl')) := fun r er E' rev' ks' o' n' cs' ps' dl' e => by
    unfold stD at e
    simp only [List.cons.injEq, PyData.list.injEq, PyData.tuple.injEq, PyData.str.injEq, PyData.int.injEq, and_true] at e
    obtain ⟨⟨rfl, rfl, e1⟩, rfl, rfl, rfl, rfl, rfl⟩ := e
    rw [← rows_inj e1]
    exact er
  show WS _ K Ex _ [.d (.tuple [.list E, .int rev, .list (ks.map rowD)]), .d (.tuple [.str o, .int n, .tuple [.tuple cs, .tuple ps, .tuple dl]]), .u, .u, .u, .u, .u, .u, .u, .u, .u] _ _ _ _ _ _
  have hgl : okx 7 (.tuple (ps ++ dl)) = true := okx_tupJ (by rw [List.length_append]; omega) fun x hx => (List.mem_append.mp hx).elim (fun h => okx_mono (n := 5) (by omega) (put_okx (List.all_eq_true.mp hg.ap x h))) (fun h => okx_mono (n := 5) (by omega) (del_okx (List.all_eq_true.mp hg.ad x h)))
  walk_at "pn"
  walk_at "px"
  refine we_callP ?_
  walk_at "px"
  refine ⟨⟨_, _, rfl, ks, o, rfl, rfl, by omega⟩, fun r hr2 => ?_⟩
  obtain rfl := hr2 _ _ rfl
  clear hr2
  walk_at "pn"
  walk_at "px"
  refine ⟨fun h1 => ?_, fun h1 => ?_⟩
  · have h1 := of_decide_eq_true h1
    walk_at "px"
    refine ⟨fin _ ?_, True.intro⟩
    unfold expD
    rw [if_pos h1]
    rfl
  · have h1 := of_decide_eq_false h1
    walk_at "pn"
    walk_at "px"
    refine ⟨fun h2 => ?_, fun h2 => ?_⟩
    · have h2 := of_decide_eq_true h2
      walk_at "px"
      refine ⟨fin _ ?_, True.intro⟩
      unfold expD
      rw [if_neg h1, if_pos h2]
      rfl
    · have h2 := of_decide_eq_false h2
      walk_at "pn"
      walk_at "px"
      refine we_callP ?_
      walk_at "px"
      refine ⟨⟨_, _, rfl, E, cs, ps, dl, rfl, hE, rfl, hg⟩, fun r hr3 => ?_⟩
      obtain rfl := hr3 _ _ _ _ rfl
      clear hr3
      walk_at "pn"
      walk_at "px"
      refine ⟨fun h3 => ?_, fun h3 => ?_⟩
      · have h3 := of_decide_eq_true h3
        walk_at "px"
        refine opP_catT (by omega) ?_
        walk_at "px"
        refine opP_neD (d := .tuple (ps ++ dl)) (e := .tuple []) rfl rfl (okx_sh hgl) (by decide) ?_
        rw [eqv_tnil]
        cases hb : (ps ++ dl).isEmpty with
        | true =>
          refine ⟨false, rfl, fun z => (by cases z), fun _ => ?_⟩
          walk_at "px"
          refine we_callP ?_
          walk_at "px"
          refine ⟨⟨_, _, rfl, ks, o, n, _, rfl, rfl, by omega⟩, fun r hr4 => ?_⟩
          obtain rfl := hr4 _ _ _ _ rfl
          walk_at "px"
          refine ⟨fin _ ?_, True.intro⟩
          unfold expD
          rw [if_neg h1, if_neg h2, if_pos h3, if_pos hb]
          rfl
        | false =>
          refine ⟨true, rfl, fun _ => ?_, fun z => (by cases z)⟩
          walk_at "px"
          refine we_callP ?_
          walk_at "px"
          refine ⟨⟨_, _, _, rfl, E, rev + 1, .tuple cs, ps, dl, rfl, hEl, fun r hr => (hE.r r hr).ent, rfl, rfl, by omega, hg.p3, fun d hd => del_2S (List.all_eq_true.mp hg.ad d hd)⟩, fun r hr4 => ?_⟩
          obtain rfl := hr4 _ _ _ _ _ rfl
          clear hr4
          walk_at "pn"
          walk_at "px"
          refine we_callP ?_
          walk_at "px"
          refine ⟨⟨_, _, rfl, ks, o, n, _, rfl, rfl, by omega⟩, fun r hr4 => ?_⟩
          obtain rfl := hr4 _ _ _ _ rfl
          walk_at "px"
          refine ⟨fin _ ?_, True.intro⟩
          unfold expD
          rw [if_neg h1, if_neg h2, if_pos h3, if_neg (by rw [hb]; decide)]
          rfl
      · have h3 := of_decide_eq_false h3
        walk_at "pn"
        walk_at "px"
        refine we_callP ?_
        walk_at "px"
        refine ⟨⟨_, _, rfl, ks, o, n, _, rfl, rfl, by omega⟩, fun r hr4 => ?_⟩
        obtain rfl := hr4 _ _ _ _ rfl
        walk_at "px"
        refine ⟨fin _ ?_, True.intro⟩
        unfold expD
        rw [if_neg h1, if_neg h2, if_neg h3]
        rfl
end
/-! # sessions from an image -/
def kdOf (ks : List KRow) : KD := ks.foldl (fun kd r => putKD kd (.inr r.1) (.tuple [.int r.2.1, .tuple r.2.2])) []
theorem putKD_len {kd : KD} {k : Key} {d : PyData} : (putKD kd k d).length ≤ kd.length + 1 := by
  unfold putKD
  split
  · rw [List.length_map]; omega
  · rw [List.length_append]; exact Nat.le_refl _
def sp_simg (K : PySem.W.Frag) (C : Addr) : Sp := fun vs H Q _ => ∃ (v : V) (ks : List KRow) (B : Hp), vs = [v] ∧ Dq K B v (.tuple (ks.map rowD)) ∧ Same B H ∧ ks.length ≤ 1000 ∧
  ∀ (m' : SeM) (F2 : AP) (H' B' : Hp), (sesR K C).rel m' F2 H' B' → m'.kd = kdOf ks → Same H H' → Same B B' → Same B' H' → (∀ x, H x ≠ none → B x = none → B' x = none) → (∀ x, F2 x → H x = none) → Q (.ref m'.s) H'
theorem we_simg {M : Type} {R : MR M} {K : PySem.W.Frag} {E E' : XK} {XP : Addr → M → Prop} {ρ : List Sl} {m : M} {tr : TA} {k : Rk → M → Prop} {C : Addr} {get : M → SeM} {set : M → SeM → M} (L : Part R (sesR K C) get set) (h : WA R K E XP ρ m tr fun rs m1 => ∃ ks : List KRow, rs = [.d (.tuple (ks.map rowD))] ∧ ks.length ≤ 1000 ∧ ∀ m' : SeM, m'.kd = kdOf ks → k (.v (.ref m'.s)) (set m1 m')) :
    WE R K E XP ρ m (tSMeth C (sp_simg K C) E' (tC (.ref C)) tr) k := by
  unfold WA at h
  unfold WE
  intro F0 H0 B0 F H B σ D Q q
  refine ⟨rfl, h D _ fun vs rs m1 F1 H1 B1 ⟨ks, e, hl, hk⟩ D1 q1 r1 => ?_⟩
  subst e
  obtain ⟨v, rfl, hv⟩ : ∃ v, vs = [v] ∧ Dq K B1 v (.tuple (ks.map rowD)) := by
    match vs, r1 with
    | [v], ⟨h1, _⟩ => exact ⟨v, rfl, h1⟩
  refine ⟨v, ks, B1, rfl, hv, D1.st.s, hl, fun m' F2 H' B' rel e1 sH sB sBH fr f0 => ?_⟩
  obtain ⟨F3, r3, i3, c3⟩ := L.on D1.r
  have st : Stq F3 H1 B1 F2 H' B' := ⟨sB, sBH, fr, fun x o hx _ => sH x o hx, fun x hx _ z => hx (f0 x z), fun x hx => by
    cases e : H1 x with
    | none => exact absurd e hx
    | some o => rw [sH x o e]; simp⟩
  obtain ⟨F4, r4, st4, _⟩ := c3 m' F2 H' B' st rel
  exact q (.ref m'.s) (.v _) _ F4 H' B' (hk m' e1) (D1.step st4 r4) (q1.trans st4) rfl
section
variable {P : Program} {w : World} {K : PySem.W.Frag} {mg : Str → Option Value} {base : Heap}
theorem ok_Sessions_from_image (T : TX K mg w) : FnOk P w K mg base CX0 3 T.a_Sessions_from_image T.d_Sessions_from_image ["image"] (sp_simg K T.a_Sessions) := by
  refine T.F_Sessions_from_image.ok sc_Sessions_from_image (fun vs H Q E h => ?_) (fun cdv A outer s H vs Q E hr h => ?_)
  · obtain ⟨v, ks, B, rfl, _⟩ := h
    rfl
  · obtain ⟨v, ks, B, rfl, hv, sB, hl, q⟩ := h
    refine ⟨_, (pss_cons (ps_set (i := 1) sc_Sessions_from_image.nd rfl (Or.inl rfl) (pe_make0 T.M_Sessions (ok_Sessions___init__ T) (hr.mono (by decide)) (by rfl) T.g_Sessions T.b_Sessions___init__ .nil pass0))
      (pss_cons (ps_for PassesOwn.never rfl (piK_tup (K := K) rfl (pv 0)) (pgK_tup (K := K) (n := 3) rfl rfl (pgs_cons (pg_name (i := 2) sc_Sessions_from_image.nd rfl (Or.inl rfl)) (pgs_cons (pg_name (i := 3) sc_Sessions_from_image.nd rfl (Or.inl rfl)) (pgs_cons (pg_name (i := 4) sc_Sessions_from_image.nd rfl (Or.inl rfl)) pgs_nil))))
        (pss_one (ps_dput (hu_of hr) (pe_fldK (K := K) rfl (pv 1) rfl) (pv 2) (pe_tup (pa_cons (pv 3) (pa_cons (pv 4) pa_nil))) rfl)))
      (pss_one (ps_ret (pv 1))))), ?_⟩
    refine fun x dx h1 h2 h3 => ⟨x, dx, rfl, upd_same, fun d H2 hd hs2 hd2 keep => ⟨rfl, ?_⟩⟩
    have k1 : ∀ y o, H y = some o → H2 y = some o := fun y o e => by
      have n1 : y ≠ x := fun z => by rw [z, h1] at e; cases e
      have n2 : y ≠ dx := fun z => by rw [z, h2] at e; cases e
      exact keep y o (by rw [upd_ne n1, upd_ne n2]; exact e) n1
    have hd0 : H d = none := by
      have n1 : d ≠ x := fun z => by rw [z, upd_same] at hd; cases hd
      have n2 : d ≠ dx := fun z => by rw [z, upd_ne h3, upd_same] at hd; cases hd
      rw [upd_ne n1, upd_ne n2] at hd; exact hd
    dsimp only [L2.gName]
    show tSeq _ _ { nx := fun _ H' => Q .non H', rt := Q } (some v :: some (.ref x) :: List.replicate 3 none) H2
    have hnone : ∀ y, H y = none → B y = none := fun y hy => by
      cases hb : B y with
      | none => rfl
      | some o => rw [sB _ _ hb] at hy; cases hy
    have hR2 : (sesR K T.a_Sessions).rel ⟨x, d, []⟩ (fun y => y = x ∨ y = d) H2 B := ⟨⟨dx, hs2⟩, ⟨[], hd2, .nil⟩, fun _ => Iff.rfl, hnone _ h1, hnone _ hd0⟩
    refine enterD (K := K) (E := E) (B := B) (ρ := [.d (.tuple (ks.map rowD)), .v (.ref x), .u, .u, .u]) (rt := fun r m => r = .v (.ref m.s) ∧ m.kd = kdOf ks) hR2 (fun y o e => k1 y o (sB y o e)) rfl (fun i u hu => ?_) (fun v r m' F' H' B' hk st rl rel => ?_) ?_
    · match i with
      | 0 => cases hu; exact ⟨_, rfl, .inr (.inr ⟨_, _, rfl, rfl, hv⟩)⟩
      | 1 => cases hu; exact ⟨_, rfl, .inr (.inl ⟨_, rfl, rfl⟩)⟩
      | 2 | 3 | 4 => cases hu; exact ⟨none, rfl, .inl rfl⟩
      | i + 5 => cases hu
    · obtain ⟨e0, e1⟩ := hk
      subst e0
      cases (show v = .ref m'.s from rel)
      have nF : ∀ y, H y ≠ none → ¬ (y = x ∨ y = d) := fun y hy z => by
        rcases z with rfl | rfl
        · exact hy h1
        · exact hy hd0
      have live : ∀ y, H y ≠ none → H2 y ≠ none := fun y hy => by
        cases ho : H y with
        | none => exact absurd ho hy
        | some o => rw [k1 y o ho]; simp
      refine q m' F' H' B' rl e1 (fun y o ho => st.k y o (k1 y o ho) (nF y (by rw [ho]; simp))) st.b st.s (fun y hy hb => st.f y (live y hy) hb) fun y hy => ?_
      refine Classical.byContradiction fun hz => ?_
      exact st.n y (live y hz) (nF y hz) hy
    clear q k1 hs2 hd2 hR2 h1 h2 h3 hd hd0 keep hnone sB hv
    have kC := T.K_Sessions
    have nK := T.na_Sessions__kept
    walk_at "pn"
    refine ws_seq (ws_for ?_)
    walk_at "px"
    refine ⟨SeM, fun _ => [.d (.tuple (ks.map rowD)), .v (.ref x), .u, .u, .u], fun m => m, fun i m => m = ⟨x, d, kdOf (ks.take i)⟩ ∧ m.kd.length ≤ i, nxt _ (by walk_at "wk") rfl ⟨rfl, Nat.le_refl _⟩, fun i r m hr hI => ?_, fun m hI => ?_⟩
    · obtain ⟨⟨o, n, as⟩, hr1, rfl⟩ := row_at hr
      obtain ⟨hm, hml⟩ := hI
      have hm : m = ⟨x, d, kdOf (ks.take i)⟩ := hm
      have hml : m.kd.length ≤ i := hml
      have hi := (List.getElem?_eq_some_iff.mp hr1).1
      have hst : kdOf (ks.take (i + 1)) = putKD m.kd (.inr o) (.tuple [.int n, .tuple as]) := by
        unfold kdOf
        rw [take_succ_app hr1, List.foldl_append, hm]
        rfl
      have hx : m.s = x := by rw [hm]
      have hd : m.d = d := by rw [hm]
      clear hr
      walk_at "pn"
      refine wg_tup rfl (wgs_cons (wg_name (wgs_cons (wg_name (wgs_cons (wg_name (wgs_nil ?_)))))))
      walk_at "pn"
      refine ws_sput .refl ?_
      walk_at "px"
      refine we_kept .refl kC nK (by rw [hx]; rfl) ⟨rfl, ?_⟩
      walk_at "px"
      refine ⟨by show m.kd.length < 90000; omega, nxt _ (by walk_at "wk") rfl ⟨?_, Nat.le_trans putKD_len (Nat.succ_le_succ hml)⟩⟩
      show (⟨m.s, m.d, putKD m.kd (.inr o) (.tuple [.int n, .tuple as])⟩ : SeM) = ⟨x, d, kdOf (ks.take (i + 1))⟩
      rw [hst, hx, hd]
    · obtain ⟨hm, hml⟩ := hI
      have hm : m = ⟨x, d, kdOf (ks.take (ks.map rowD).length)⟩ := hm
      rw [List.length_map, List.take_length] at hm
      subst hm
      walk_at "px"
      exact rfl
end
/-! # what is asked -/
theorem InvK.at_ {kd : KD} {ks : List KRow} (h : InvK kd ks) (z : Str) : (keptR ks z = (z, 0, []) ∧ lkK kd (.inr z) = none) ∨ (keptR ks z ∈ ks ∧ (keptR ks z).1 = z ∧ lkK kd (.inr z) = some (.tuple [.int (keptR ks z).2.1, .tuple (keptR ks z).2.2])) := by
  have hg := h.get z
  unfold keptR
  cases hq : ks.find? fun r => decide (r.1 = z) with
  | none => rw [hq] at hg; exact .inl ⟨rfl, hg⟩
  | some r =>
    rw [hq] at hg
    exact .inr ⟨List.mem_of_find?_eq_some hq, of_decide_eq_true (List.find?_some (p := fun r : KRow => decide (r.1 = z)) hq), hg⟩
/-- a good row -/
def GRow (r : KRow) : Prop := (r.1 = "u1" ∨ r.1 = "m1.2" ∨ r.1 = "m1.10" ∨ r.1 = "w 1~") ∧ 1 ≤ r.2.1 ∧ ∃ (z : Str) (i : Int), (z = "done" ∨ z = "no") ∧ r.2.2 = [.str z, .int i]
theorem InvK.last {kd : KD} {ks : List KRow} (h : InvK kd ks) (z : Str) : lastD kd z = (keptR ks z).2.1 := by
  unfold lastD
  rcases h.at_ z with ⟨e1, e2⟩ | ⟨_, _, e2⟩
  · rw [e2, e1]
  · rw [e2]
theorem InvK.ans_gt {kd : KD} {ks : List KRow} (h : InvK kd ks) {z : Str} {n : Int} (hn : (keptR ks z).2.1 < n) : ansD kd z n = .none := by
  unfold ansD
  rcases h.at_ z with ⟨e1, e2⟩ | ⟨_, _, e2⟩
  · rw [e2]
  · rw [e2]
    dsimp only []
    rw [if_pos (by omega)]
theorem InvK.ans_eq {kd : KD} {ks : List KRow} (h : InvK kd ks) {z : Str} (hn : 0 < (keptR ks z).2.1) : ansD kd z (keptR ks z).2.1 = .tuple (keptR ks z).2.2 := by
  unfold ansD
  rcases h.at_ z with ⟨e1, e2⟩ | ⟨_, _, e2⟩
  · rw [e1] at hn; exact absurd hn (by show ¬ (0 : Int) < 0; decide)
  · rw [e2]
    dsimp only []
    rw [if_neg (by omega), if_neg (by omega)]
theorem InvK.ans_lt {kd : KD} {ks : List KRow} (h : InvK kd ks) {z : Str} {n : Int} (h0 : 0 < (keptR ks z).2.1) (hn : n < (keptR ks z).2.1) : ansD kd z n = .tuple [.str "old"] := by
  unfold ansD
  rcases h.at_ z with ⟨e1, e2⟩ | ⟨_, _, e2⟩
  · rw [e1] at h0; exact absurd h0 (by show ¬ (0 : Int) < 0; decide)
  · rw [e2]
    dsimp only []
    rw [if_neg (by omega), if_pos hn]
theorem InvK.has {kd : KD} {ks : List KRow} (h : InvK kd ks) {z : Str} {n : Int} (h1 : 1 ≤ n) : hasA kd z n = decide (n ≤ (keptR ks z).2.1) := by
  unfold hasA
  rcases h.at_ z with ⟨e1, e2⟩ | ⟨_, _, e2⟩
  · rw [e2, e1]
    exact (decide_eq_false (by show ¬ n ≤ 0; omega)).symm
  · rw [e2]
theorem smd_pair {z : Str} {i : Int} (hz : z = "done" ∨ z = "no") : SmD 11 (.tuple [.str z, .int i]) (.tuple [.str z, .int i]) := by
  refine ⟨rfl, 10, rfl, rfl, okx_tupJ (by show 2 ≤ 1000; omega) fun x hx => ?_, by omega⟩
  simp only [List.mem_cons, List.not_mem_nil, or_false] at hx
  rcases hx with rfl | rfl
  · rcases hz with rfl | rfl <;> decide +kernel
  · rfl
theorem smd_old : SmD 11 (.tuple [.str "old"]) (.tuple [.str "old"]) := ⟨rfl, 10, rfl, rfl, by decide +kernel, by omega⟩
theorem row_ok {r : KRow} (h : GRow r) : noB 9 (rowD r) = true ∧ okx 9 (rowD r) = true := by
  obtain ⟨o, n, as⟩ := r
  obtain ⟨ho, _, z, i, hz, e⟩ := h
  have e : as = [.str z, .int i] := e
  subst e
  have ho : o = "u1" ∨ o = "m1.2" ∨ o = "m1.10" ∨ o = "w 1~" := ho
  refine ⟨rfl, ?_⟩
  refine okx_tupJ (by show 3 ≤ 1000; omega) fun x hx => ?_
  simp only [List.mem_cons, List.not_mem_nil, or_false] at hx
  rcases hx with rfl | rfl | rfl
  · rcases ho with rfl | rfl | rfl | rfl <;> decide +kernel
  · rfl
  · refine okx_tupJ (by show 2 ≤ 1000; omega) fun x hx => ?_
    simp only [List.mem_cons, List.not_mem_nil, or_false] at hx
    rcases hx with rfl | rfl
    · rcases hz with rfl | rfl <;> decide +kernel
    · rfl
theorem smd_rows {ks : List KRow} (h : ∀ r ∈ ks, GRow r) (hl : ks.length ≤ 100) : SmD 11 (.tuple (ks.map rowD)) (.tuple (ks.map rowD)) := by
  refine ⟨rfl, 10, rfl, noB_tup fun x hx => ?_, okx_tupJ (by rw [List.length_map]; omega) fun x hx => ?_, by omega⟩
  · obtain ⟨r, hr, rfl⟩ := List.mem_map.mp hx
    exact (row_ok (h r hr)).1
  · obtain ⟨r, hr, rfl⟩ := List.mem_map.mp hx
    exact (row_ok (h r hr)).2
theorem InvK.smd {kd : KD} {ks : List KRow} (h : InvK kd ks) (hG : ∀ r ∈ ks, GRow r) {z : Str} (h0 : 0 < (keptR ks z).2.1) : SmD 11 (.tuple (keptR ks z).2.2) (.tuple (keptR ks z).2.2) := by
  rcases h.at_ z with ⟨e1, e2⟩ | ⟨e1, _, _⟩
  · rw [e1] at h0; exact absurd h0 (by show ¬ (0 : Int) < 0; decide)
  · obtain ⟨_, _, y, i, hy, e⟩ := hG _ e1
    rw [e]
    exact smd_pair hy
theorem InvK.os {kd : KD} {ks : List KRow} (h : InvK kd ks) : ∃ os : List Str, kd.map Prod.fst = os.map Sum.inr ∧ os.length = ks.length := by
  obtain ⟨os, e, hn, hm⟩ := h.keys
  refine ⟨os, e, ?_⟩
  have := ((List.perm_ext_iff_of_nodup hn (asc_nodup h.asc)).mpr hm).length_eq
  rw [List.length_map] at this
  exact this
theorem InvK.len {kd : KD} {ks : List KRow} (h : InvK kd ks) : kd.length = ks.length := by
  obtain ⟨os, e, hl⟩ := h.os
  have := congrArg List.length e
  rw [List.length_map, List.length_map] at this
  omega
section
variable {P : Program} {w : World} {K : PySem.W.Frag} {mg : Str → Option Value} {base : Heap}
theorem ok__law_asks (T : TX K mg w) : FnOk P w K mg base CX0 14 T.a__law_asks T.d__law_asks ["sessions", "kept"] (spA (seR K T) K (fun m rs => ∃ ks : List KRow, rs = [.v (.ref m.s), .d (.list (ks.map rowD))] ∧ InvK m.kd ks ∧ (∀ r ∈ ks, GRow r) ∧ ks.length ≤ 50) (fun m rs r m' => r = .d (.bool true) ∧ m' = m)) := by
  refine okA T.F__law_asks sc__law_asks 2 rfl (fun m rs ⟨_, e, _⟩ => by rw [e]; rfl) fun cdv A outer s H E hr => ⟨_, (pss_cons (ps_for PassesOwn.never rfl (piK_list (K := K) rfl (pe_lst (pa_cons pe_str (pa_cons pe_str (pa_cons pe_str (pa_cons pe_str pa_nil)))))) (pg_name (i := 2) sc__law_asks.nd rfl (Or.inl rfl))
        (pss_cons (ps_set (i := 3) sc__law_asks.nd rfl (Or.inl rfl) (pe_call (ok__law_kept T) (hr.mono (by decide)) (by rfl) T.g__law_kept T.F__law_kept.kp T.b__law_kept .nil pass0 (pa_cons (pv 1) (pa_cons (pv 2) pa_nil))))
        (pss_cons (ps_if (PW.pt (pw_or (pt_not (ptK_truth (K := K) rfl (pe_call (ok__law_is_integer T) (hr.mono (by decide)) (by rfl) T.g__law_is_integer T.F__law_is_integer.kp T.b__law_is_integer .nil pass0 (pa_cons (pe_meth (pv 0) T.K_Sessions T.m_Sessions_last (ok_Sessions_last T) (hr.mono (by decide)) T.b_Sessions_last .nil pass0 (pa_cons (pv 2) pa_nil)) pa_nil)) (by intro _; rfl))) (pw_or1 (pt_cmpR op_ne (pe_meth (pv 0) T.K_Sessions T.m_Sessions_last (ok_Sessions_last T) (hr.mono (by decide)) T.b_Sessions_last .nil pass0 (pa_cons (pv 2) pa_nil)) (pe_ix (ixK_tup (K := K) rfl) (pv 3) pe_int (fun _ _ => rfl)) (nomark _))))) (pss_one (ps_ret pe_bl)) pss_nil)
        (pss_cons (ps_if (pt_cmpR op_notN1 (pe_meth (pv 0) T.K_Sessions T.m_Sessions_answer (ok_Sessions_answer T) (hr.mono (by decide)) T.b_Sessions_answer .nil pass0 (pa_cons (pv 2) (pa_cons (pe_op op_add (pe_ix (ixK_tup (K := K) rfl) (pv 3) pe_int (fun _ _ => rfl)) pe_int) pa_nil))) pe_non (nomark _)) (pss_one (ps_ret pe_bl)) pss_nil)
        (pss_cons (ps_if (PW.pt (pw_and (pt_cmpR op_gt (pe_ix (ixK_tup (K := K) rfl) (pv 3) pe_int (fun _ _ => rfl)) pe_int (nomark _)) (pw_and1 (pt_not (pt_val (pe_call (ok__law_same T) (hr.mono (by decide)) (by rfl) T.g__law_same T.F__law_same.kp T.b__law_same .nil pass0 (pa_cons (pe_meth (pv 0) T.K_Sessions T.m_Sessions_answer (ok_Sessions_answer T) (hr.mono (by decide)) T.b_Sessions_answer .nil pass0 (pa_cons (pv 2) (pa_cons (pe_ix (ixK_tup (K := K) rfl) (pv 3) pe_int (fun _ _ => rfl)) pa_nil))) (pa_cons (pe_ix (ixK_tup (K := K) rfl) (pv 3) pe_int (fun _ _ => rfl)) pa_nil)))))))) (pss_one (ps_ret pe_bl)) pss_nil)
        (pss_one (ps_if (PW.pt (pw_and (pt_cmpR op_gt (pe_ix (ixK_tup (K := K) rfl) (pv 3) pe_int (fun _ _ => rfl)) pe_int (nomark _)) (pw_and1 (pt_not (pt_val (pe_call (ok__law_same T) (hr.mono (by decide)) (by rfl) T.g__law_same T.F__law_same.kp T.b__law_same .nil pass0 (pa_cons (pe_meth (pv 0) T.K_Sessions T.m_Sessions_answer (ok_Sessions_answer T) (hr.mono (by decide)) T.b_Sessions_answer .nil pass0 (pa_cons (pv 2) (pa_cons (pe_op op_sub (pe_ix (ixK_tup (K := K) rfl) (pv 3) pe_int (fun _ _ => rfl)) pe_int) pa_nil))) (pa_cons (pe_tup (pa_cons pe_str pa_nil)) pa_nil)))))))) (pss_one (ps_ret pe_bl)) pss_nil)))))))
      (pss_one (ps_ret (pe_call (ok__law_same T) (hr.mono (by decide)) (by rfl) T.g__law_same T.F__law_same.kp T.b__law_same .nil pass0 (pa_cons (pe_meth0 (pv 0) T.K_Sessions T.m_Sessions_image (ok_Sessions_image T) (hr.mono (by decide)) T.b_Sessions_image .nil pass0) (pa_cons (pe_callTy (callK_tuple (K := K) rfl) (by rfl) T.n_tuple (by decide +kernel) (pa_cons (pv 1) pa_nil)) pa_nil)))))), fun m rs hd => ?_⟩
  obtain ⟨ks, rfl, hI, hG, hl⟩ := hd
  have hll : (ks.map rowD).length ≤ 50 := by rw [List.length_map]; exact hl
  walk_at "pn"
  walk_at "px"
  refine ws_for ?_
  walk_at "px"
  refine ⟨Unit, fun _ => [.v (.ref m.s), .d (.list (ks.map rowD)), .u, .u], fun _ => m, fun _ _ => True, nxt () (by walk_at "wk") rfl True.intro, fun i x s hx _ => ?_, fun s _ => ?_⟩
  · obtain ⟨z, rfl⟩ : ∃ z : Str, x = .str z := by
      have := List.mem_of_getElem? hx
      simp only [List.mem_cons, List.not_mem_nil, or_false] at this
      rcases this with rfl | rfl | rfl | rfl <;> exact ⟨_, rfl⟩
    clear hx
    walk_at "pn"
    walk_at "px"
    refine we_callP ?_
    walk_at "px"
    refine ⟨⟨_, _, rfl, ks, z, rfl, rfl, by omega⟩, fun r hr2 => ?_⟩
    obtain rfl := hr2 _ _ rfl
    clear hr2
    walk_at "px"
    refine we_callP (wa_cons (we_meth (at_ := SeM.s) (clsSes fun _ => rfl) rfl ?_))
    walk_at "px"
    refine ⟨⟨_, rfl, hI.ok⟩, fun _ z => z, fun r m5 ⟨em5, er5⟩ => ?_⟩
    have er5 := er5 _ rfl
    have em5 := (show m5 = m from em5).symm
    subst em5 er5
    walk_at "px"
    refine ⟨⟨_, rfl, _, rfl⟩, fun r hr5 => ?_⟩
    subst hr5
    refine ⟨true, rfl, fun _ => ?_, fun z => (by cases z)⟩
    walk_at "px"
    refine we_meth (at_ := SeM.s) (clsSes fun _ => rfl) rfl ?_
    walk_at "px"
    refine ⟨⟨_, rfl, hI.ok⟩, fun _ z => z, fun r m5 ⟨em5, er5⟩ => ?_⟩
    have er5 := er5 _ rfl
    have em5 := (show m5 = m from em5).symm
    subst em5 er5
    try dsimp only []
    rw [hI.last]
    walk_at "px"
    rw [decide_eq_true (rfl : (keptR ks z).2.1 = (keptR ks z).2.1)]
    refine ⟨fun z => (by cases z), fun _ => ?_⟩
    walk_at "px"
    refine we_meth (at_ := SeM.s) (clsSes fun _ => rfl) rfl ?_
    walk_at "px"
    refine ⟨⟨_, _, rfl, hI.ok⟩, fun _ z => z, fun r m5 ⟨em5, er5⟩ => ?_⟩
    have er5 := er5 _ _ rfl
    have em5 := (show m5 = m from em5).symm
    subst em5 er5
    try dsimp only []
    rw [hI.ans_gt (by omega)]
    walk_at "px"
    refine ⟨fun h => ?_, fun h => ?_⟩
    · have h := of_decide_eq_true h
      refine wt_not (wt_b ?_)
      refine we_callP (wa_cons (we_meth (at_ := SeM.s) (clsSes fun _ => rfl) rfl ?_))
      walk_at "px"
      refine ⟨⟨_, _, rfl, hI.ok⟩, fun _ z => z, fun r m5 ⟨em5, er5⟩ => ?_⟩
      have er5 := er5 _ _ rfl
      have em5 := (show m5 = m from em5).symm
      subst em5 er5
      try dsimp only []
      rw [hI.ans_eq h]
      walk_at "px"
      refine ⟨⟨_, _, rfl, hI.smd hG h⟩, fun r hr5 => ?_⟩
      subst hr5
      refine ⟨true, rfl, fun z => (by cases z), fun _ => ?_⟩
      walk_at "px"
      refine ⟨fun h2 => ?_, fun h2 => ?_⟩
      · have h2 := of_decide_eq_true h2
        refine wt_not (wt_b ?_)
        refine we_callP (wa_cons (we_meth (at_ := SeM.s) (clsSes fun _ => rfl) rfl ?_))
        walk_at "px"
        refine ⟨⟨_, _, rfl, hI.ok⟩, fun _ z => z, fun r m5 ⟨em5, er5⟩ => ?_⟩
        have er5 := er5 _ _ rfl
        have em5 := (show m5 = m from em5).symm
        subst em5 er5
        try dsimp only []
        rw [hI.ans_lt h (by omega)]
        walk_at "px"
        refine ⟨⟨_, _, rfl, smd_old⟩, fun r hr5 => ?_⟩
        subst hr5
        refine ⟨true, rfl, fun z => (by cases z), fun _ => ?_⟩
        walk_at "px"
        exact nxt () (by walk_at "wk") rfl True.intro
      · walk_at "px"
        exact nxt () (by walk_at "wk") rfl True.intro
    · have h := of_decide_eq_false h
      walk_at "px"
      rw [decide_eq_false (by omega : ¬ 1 < (keptR ks z).2.1)]
      refine ⟨fun z => (by cases z), fun _ => ?_⟩
      walk_at "px"
      exact nxt () (by walk_at "wk") rfl True.intro
  · walk_at "pn"
    walk_at "px"
    refine we_callP (wa_cons (we_meth (at_ := SeM.s) (clsSes fun _ => rfl) rfl ?_))
    walk_at "px"
    obtain ⟨os, ho, hol⟩ := hI.os
    refine ⟨⟨rfl, hI.ok, os, ho, by omega⟩, fun _ z => z, fun r m5 ⟨em5, ys, os', e1, e2, e3, er5⟩ => ?_⟩
    have em5 := (show m5 = m from em5).symm
    subst em5 er5
    have himg : ys.map (rowK m.kd) = ks.map rowD := hI.image e1 e2 e3
    dsimp only []
    rw [himg]
    walk_at "px"
    exact ⟨⟨_, _, rfl, smd_rows hG (by omega)⟩, fun r hr5 => ⟨hr5, rfl⟩⟩
end
/-! # the law of commands that run once -/
theorem keep_snoc {ks : List KRow} {e : KRow} (h : ∀ r ∈ ks, ltS r.1 e.1 = true) : keepR ks e = ks ++ [e] := by
  unfold keepR
  rw [List.filter_eq_self.mpr h, List.filter_eq_nil_iff.mpr (fun r hr z => (by rw [ltS_asym (h r hr)] at z; cases z)), List.append_nil]
theorem img_inv {ks : List KRow} (h : (ks.map Prod.fst).Pairwise fun a b => ltS a b = true) : ∀ i : Nat, InvK (kdOf (ks.take i)) (ks.take i)
  | 0 => InvK.nil
  | i + 1 => by
    have ih := img_inv h i
    by_cases hi : i < ks.length
    · have hq : ks[i]? = some ks[i] := List.getElem?_eq_getElem hi
      have e : keepR (ks.take i) ks[i] = ks.take i ++ [ks[i]] := keep_snoc fun r hr => by
        rw [List.pairwise_map] at h
        have h2 : (ks.take i ++ ks.drop i).Pairwise fun a b => ltS a.1 b.1 = true := by rw [List.take_append_drop]; exact h
        exact (List.pairwise_append.mp h2).2.2 r hr _ (by rw [List.drop_eq_getElem_cons hi]; exact List.mem_cons_self)
      have := ih.put ks[i].1 ks[i].2.1 ks[i].2.2
      rw [take_succ_app hq]
      have e2 : kdOf (ks.take i ++ [ks[i]]) = putKD (kdOf (ks.take i)) (.inr ks[i].1) (.tuple [.int ks[i].2.1, .tuple ks[i].2.2]) := by
        unfold kdOf
        rw [List.foldl_append]
        rfl
      rw [e2, ← e]
      exact this
    · rw [List.take_of_length_le (by omega)]
      rw [List.take_of_length_le (by omega)] at ih
      exact ih
theorem InvK.img {kd : KD} {ks : List KRow} (h : InvK kd ks) : InvK (kdOf ks) ks := by
  have := img_inv h.asc ks.length
  rw [List.take_length] at this
  exact this
theorem exp_pair (E : List PyData) (rev : Int) (ks : List KRow) (o : Str) (n : Int) (cs ps dl : List PyData) : ∃ S a, expD E rev ks o n cs ps dl = .tuple [S, a] := by
  unfold expD
  split
  · exact ⟨_, _, rfl⟩
  · split
    · exact ⟨_, _, rfl⟩
    · split
      · split
        · exact ⟨_, _, rfl⟩
        · exact ⟨_, _, rfl⟩
      · exact ⟨_, _, rfl⟩
def O4 (z : Str) : Prop := z = "u1" ∨ z = "m1.2" ∨ z = "m1.10" ∨ z = "w 1~"
structure L35 (m : SM × SeM) (ks : List KRow) (j : Nat) : Prop where
  si : SI m.1
  rv : m.1.rev ≤ (j : Int)
  inv : InvK m.2.kd ks
  gr : ∀ r ∈ ks, GRow r
  kl : ks.length ≤ j
theorem L35.up {m : SM × SeM} {ks : List KRow} {j : Nat} (h : L35 m ks j) : L35 m ks (j + 1) := ⟨h.si, by have := h.rv; omega, h.inv, h.gr, by have := h.kl; omega⟩
theorem L35.run {m : SM × SeM} {ks : List KRow} {j : Nat} (h : L35 m ks j) {z y : Str} {n i : Int} (hz : O4 z) (hn : 1 ≤ n) (hy : y = "done" ∨ y = "no") {m1 : SM} (h1 : SI m1) (h2 : m1.rev ≤ ((j + 1 : Nat) : Int)) :
    L35 (m1, newK m.2 z n (.tuple [.str y, .int i])) (keepR ks (z, n, [.str y, .int i])) (j + 1) := by
  refine ⟨h1, h2, h.inv.put z n _, fun r hr => ?_, Nat.le_trans keep_len (Nat.succ_le_succ h.kl)⟩
  rcases mem_keep.mp hr with rfl | hr
  · exact ⟨hz, hn, y, i, hy, rfl⟩
  · exact h.gr r hr.1
theorem new_empty {m : SM} {ps dl : List PyData} (h : (ps ++ dl).isEmpty = true) : newSt m ps dl = m := by
  rw [List.isEmpty_iff] at h
  obtain ⟨rfl, rfl⟩ := List.append_eq_nil_iff.mp h
  rfl
theorem new_chg {m : SM} {ps dl : List PyData} (h : (ps ++ dl).isEmpty = false) : newSt m ps dl = chg m ps dl := by
  unfold newSt
  rw [if_neg]
  intro z
  rw [Bool.and_eq_true, List.isEmpty_iff, List.isEmpty_iff] at z
  rw [z.1, z.2] at h
  cases h
theorem L35.step {m m' : SM × SeM} {ks : List KRow} {j : Nat} {z : Str} {n : Int} {cs ps dl : List PyData} {r : Rk} (hL : L35 m ks j) (hz : O4 z) (hn : 1 ≤ n) (hg : GoodT cs ps dl)
    (hp1 : hasA m.2.kd z n = true → r = .d (ansD m.2.kd z n) ∧ m' = m)
    (hp2 : hasA m.2.kd z n = false → ∃ cs' ps' dl' a m1, (.tuple [.tuple cs, .tuple ps, .tuple dl] : PyData) = .tuple [.tuple cs', .tuple ps', .tuple dl'] ∧ isTrans (.tuple [.tuple cs, .tuple ps, .tuple dl]) = true ∧ Ans m.1 cs' ps' dl' (.d a) m1 ∧ r = .d a ∧ m' = (m1, newK m.2 z n a)) :
    ∃ ks' a, r = .d a ∧ expD (entsD m.1.tab) m.1.rev ks z n cs ps dl = .tuple [stD (entsD m'.1.tab) m'.1.rev ks', a] ∧ L35 m' ks' (j + 1) ∧ m'.1.s = m.1.s ∧ m'.2.s = m.2.s ∧ SmD 11 a a := by
  have hI := hL.inv
  have hrv := hL.rv
  rw [hI.has hn] at hp1 hp2
  by_cases hle : n ≤ (keptR ks z).2.1
  · obtain ⟨er, em⟩ := hp1 (decide_eq_true hle)
    have em := em.symm
    subst em
    have h0 : 0 < (keptR ks z).2.1 := by omega
    by_cases hlt : n < (keptR ks z).2.1
    · exact ⟨ks, .tuple [.str "old"], by rw [er, hI.ans_lt h0 hlt], by unfold expD; rw [if_pos hlt], hL.up, rfl, rfl, smd_old⟩
    · have hq : n = (keptR ks z).2.1 := by omega
      refine ⟨ks, .tuple (keptR ks z).2.2, ?_, by unfold expD; rw [if_neg hlt, if_pos hq], hL.up, rfl, rfl, hI.smd hL.gr h0⟩
      have := hI.ans_eq h0
      rw [← hq] at this
      rw [er, this]
  · obtain ⟨cs', ps', dl', a, m1, ex, _, hans, er, em⟩ := hp2 (decide_eq_false hle)
    cases ex
    subst er em
    obtain ⟨as, ea⟩ := ans_tup hans
    cases ea
    obtain ⟨q1, q2⟩ := ans_first hL.si hg.ac hans
    have g1 : ¬ n < (keptR ks z).2.1 := by omega
    have g2 : ¬ n = (keptR ks z).2.1 := by omega
    by_cases hf : firstF (okL (entsD m.1.tab) cs dl) < 0
    · obtain ⟨em1, ea⟩ := q1 hf
      cases ea
      cases hb : (ps ++ dl).isEmpty with
      | true =>
        rw [new_empty hb] at em1
        have e1 : m1.rev = m.1.rev := by rw [em1]
        refine ⟨keepR ks (z, n, [.str "done", .int m1.rev]), _, rfl, ?_, hL.run hz hn (.inl rfl) (by rw [em1]; exact hL.si) (by rw [e1]; omega), by show m1.s = m.1.s; rw [em1], rfl, smd_pair (.inl rfl)⟩
        unfold expD
        rw [if_neg g1, if_neg g2, if_pos hf, if_pos hb]
        show PyData.tuple [stD (entsD m.1.tab) m.1.rev (keepR ks (z, n, [.str "done", .int m.1.rev])), .tuple [.str "done", .int m.1.rev]] = PyData.tuple [stD (entsD m1.tab) m1.rev (keepR ks (z, n, [.str "done", .int m1.rev])), .tuple [.str "done", .int m1.rev]]
        rw [em1]
      | false =>
        rw [new_chg hb] at em1
        have e1 : m1.rev = m.1.rev + 1 := by rw [em1]; rfl
        refine ⟨keepR ks (z, n, [.str "done", .int m1.rev]), _, rfl, ?_, hL.run hz hn (.inl rfl) (by rw [em1]; exact hL.si.chg hg.isT hg.ok8) (by rw [e1]; omega), by show m1.s = m.1.s; rw [em1]; rfl, rfl, smd_pair (.inl rfl)⟩
        unfold expD
        rw [if_neg g1, if_neg g2, if_pos hf, if_neg (by rw [hb]; decide)]
        have hde := (done_ents hL.si.tab (rev := m.1.rev + 1) (dl := dl) hg.p3).1
        show PyData.tuple [stD (doneR (entsD m.1.tab) (m.1.rev + 1) ps dl) (m.1.rev + 1) (keepR ks (z, n, [.str "done", .int (m.1.rev + 1)])), .tuple [.str "done", .int (m.1.rev + 1)]] = PyData.tuple [stD (entsD m1.tab) m1.rev (keepR ks (z, n, [.str "done", .int m1.rev])), .tuple [.str "done", .int m1.rev]]
        rw [hde, e1, em1]
        rfl
    · obtain ⟨em1, ea⟩ := q2 hf
      cases ea
      have e1 : m1.rev = m.1.rev := by rw [em1]
      refine ⟨keepR ks (z, n, [.str "no", .int (firstF (okL (entsD m.1.tab) cs dl))]), _, rfl, ?_, hL.run hz hn (.inr rfl) (by rw [em1]; exact hL.si) (by rw [e1]; omega), by show m1.s = m.1.s; rw [em1], rfl, smd_pair (.inr rfl)⟩
      unfold expD
      rw [if_neg g1, if_neg g2, if_neg hf]
      show _ = PyData.tuple [stD (entsD m1.tab) m1.rev _, _]
      rw [em1]
/-- a new store and new sessions -/
theorem rel_ss {K : PySem.W.Frag} {H : Hp} {C P C2 p s t c dx a d dx2 : Addr} {q : Str} {ds : List Int} (hp : H p = some (.lst (ds.map V.int))) (hs : H s = some (.ins C dx (fSto (sm0 s t c)))) (ht : H t = some (.dT [])) (hc : H c = some (.lst [])) (np : p ≠ c) (hT : LamX.TabS H P q)
    (ha : H a = some (.ins C2 dx2 (fSes ⟨a, d, []⟩))) (hd : H d = some (.dK [])) : ∃ F B, (prM (stoR K C P q) (sesR K C2)).rel (sm0 s t c, ⟨a, d, []⟩) F H B ∧ Same B H ∧ B p = some (.lst (ds.map V.int)) := by
  obtain ⟨tb, h1, h2, h3⟩ := hT
  have hB : Same (upd (fun _ => none) p (.lst (ds.map V.int)) : Hp) H := fun x o h => by
    by_cases hx : x = p
    · rw [hx] at h ⊢
      rw [upd_same] at h
      rw [← h]; exact hp
    · rw [upd_ne hx] at h; cases h
  have bn : ∀ x o, H x = some o → (∀ us, o = .lst us → x = c) → (upd (fun _ => none) p (.lst (ds.map V.int)) : Hp) x = none := fun x o hx hn => upd_ne fun z => by
    rw [z, hp] at hx
    exact np (z ▸ hn _ (Option.some.inj hx).symm)
  have b1 := bn s _ hs fun _ z => by cases z
  have b2 := bn t _ ht fun _ z => by cases z
  have b3 := bn c _ hc fun _ _ => rfl
  have b4 := bn P _ h1 fun _ z => by cases z
  have b5 := bn a _ ha fun _ z => by cases z
  have b6 := bn d _ hd fun _ z => by cases z
  refine ⟨fun x => (x = s ∨ x = t ∨ x = c ∨ x = P ∨ H x = some (LamX.CodeO x q)) ∨ (x = a ∨ x = d), _, ⟨fun x => x = s ∨ x = t ∨ x = c ∨ x = P ∨ H x = some (LamX.CodeO x q), fun x => x = a ∨ x = d, fun _ => Iff.rfl, fun x hx hy => ?_, ⟨⟨dx, hs⟩, ⟨[], ht, .nil⟩, ⟨[], hc, .nil⟩, ⟨tb, h1, h2, fun pos cv e => ?_⟩, .inl rfl, .inr (.inl rfl), .inr (.inr (.inl rfl)), .inr (.inr (.inr (.inl rfl))), fun x hx => ?_⟩, ⟨⟨dx2, ha⟩, ⟨[], hd, .nil⟩, fun _ => Iff.rfl, b5, b6⟩⟩, hB, upd_same⟩
  · have hA : ∀ o, H x = some o → o = .ins C2 dx2 (fSes ⟨a, d, []⟩) ∨ o = .dK [] := fun o ho => by
      rcases hy with rfl | rfl
      · rw [ha] at ho; exact .inl (Option.some.inj ho).symm
      · rw [hd] at ho; exact .inr (Option.some.inj ho).symm
    rcases hx with e | e | e | e | e
    · subst e
      rcases hA _ hs with z | z
      · simp [fSto, fSes] at z
      · cases z
    · subst e
      rcases hA _ ht with z | z <;> cases z
    · subst e
      rcases hA _ hc with z | z <;> cases z
    · subst e
      rcases hA _ h1 with z | z <;> cases z
    · rcases hA _ e with z | z <;> (unfold LamX.CodeO at z; cases z)
  · obtain ⟨x, e1, e2⟩ := h3 pos cv e
    exact ⟨x, e1, e2, .inr (.inr (.inr (.inr e2)))⟩
  · rcases hx with e | e | e | e | e
    · subst e; exact ⟨by rw [hs]; simp, b1⟩
    · subst e; exact ⟨by rw [ht]; simp, b2⟩
    · subst e; exact ⟨by rw [hc]; simp, b3⟩
    · subst e; exact ⟨by rw [h1]; simp, b4⟩
    · exact ⟨by rw [e]; simp, bn x _ e fun _ z => by unfold LamX.CodeO at z; cases z⟩
theorem cbP_max {M : Type} {R : MR M} {K : PySem.W.Frag} {E : XK} {XP : Addr → M → Prop} {ρ : List Sl} {m : M} {k : Rk → M → Prop} {i j : Int} (hk : k (.d (.int (max i j))) m) : CbP R K E XP ρ m (fun xs H Q => ∃ i j, xs = [V.int i, V.int j] ∧ Q (.int (if j > i then j else i)) H) [.d (.int i), .d (.int j)] k :=
  cbP_sc (v := .int (if j > i then j else i)) rfl (fun {Hs F H B vs} _ hR Q q => by
    match vs, hR with
    | [x, y], ⟨h1, h2, _⟩ =>
      cases dq_int h1
      cases dq_int h2
      exact ⟨i, j, rfl, q⟩) (by
    have : (if j > i then j else i) = max i j := by split <;> omega
    show k (.d (.int (if j > i then j else i))) m
    rw [this]; exact hk)
theorem ws_seqS {M : Type} {R : MR M} {K : PySem.W.Frag} {E : XK} {XP : Addr → M → Prop} {ρ : List Sl} {m : M} {nx bk ct : List Sl → M → Prop} {rt : Rk → M → Prop} {t u : TS} (S : Type) (ρs : S → List Sl) (ms : S → M) (I : S → Prop) (h : WS R K E XP ρ m t (Nxt S ρs ms I) rt bk ct) (g : ∀ s, I s → WS R K E XP (ρs s) (ms s) u nx rt bk ct) : WS R K E XP ρ m (tSeq t u) nx rt bk ct :=
  ws_seq (ws_monoN h fun ρ' m' ⟨s, w, e, i⟩ => by subst e; exact ws_wk w (g s i))
theorem smd_row {m : SM} (h : SI m) (hr : m.rev ≤ 2000) : ∀ r ∈ entsD m.tab, SmD 11 r r := fun r hr2 => ⟨rfl, 10, rfl, noB_mono (n := 4) (by omega) (h.rowN hr2), okx_mono (n := 7) (by omega) (okx_all (h.okE (by omega)) r hr2), by omega⟩
theorem at_o4 {d : Int} : ∃ z, O4 z ∧ atI [PyData.str "u1", .str "m1.2", .str "m1.10", .str "w 1~"] (d % 4) = some (.str z) := by
  have h0 : 0 ≤ d % 4 := Int.emod_nonneg _ (by omega)
  have h1 : d % 4 < 4 := Int.emod_lt_of_pos _ (by omega)
  obtain ⟨k, hk⟩ : ∃ k : Nat, d % 4 = (k : Int) := ⟨(d % 4).toNat, by omega⟩
  rw [hk]
  have hk4 : k < 4 := by omega
  match k, hk4 with
  | 0, _ => exact ⟨_, .inl rfl, rfl⟩
  | 1, _ => exact ⟨_, .inr (.inl rfl), rfl⟩
  | 2, _ => exact ⟨_, .inr (.inr (.inl rfl)), rfl⟩
  | 3, _ => exact ⟨_, .inr (.inr (.inr rfl)), rfl⟩
def sp_law (K : PySem.W.Frag) (P : Addr) : Sp := fun vs H Q _ => ∃ (a : Addr) (ns : List Int), vs = [.ref a] ∧ SqL K H a (ns.map V.int) ∧ ns.length ≤ 63 ∧ LamX.TabS H P sbkQ ∧ ∀ H', Q (.bl true) H'
section
variable {P : Program} {w : World} {K : PySem.W.Frag} {mg : Str → Option Value} {base : Heap}
theorem clsRs (T : TX K mg w) {mm : Str} (h : ∀ m : SeM, (fSes m).lookup mm = none) : ClsAt (rsR K T) (fun m => m.2.s) T.a_Sessions mm := fun {m F H B} r => by
  obtain ⟨F1, r1, _⟩ := (Part.right (R1 := sR K T) (R2 := seR K T)).on r
  exact clsSes h r1
theorem ok_law (T : TX K mg w) (TB : LamX.TabB base mg T.cc__sorted_by_key T.pp__sorted_by_key) : FnOk P w K mg base CX0 15 T.a_law T.d_law ["script"] (sp_law K T.pp__sorted_by_key) := by
  refine T.F_law.ok sc_law (fun vs H Q E h => ?_) (fun cdv A outer s H vs Q E hr h => ?_)
  · obtain ⟨a, ns, rfl, _⟩ := h
    rfl
  · obtain ⟨a0, ns, rfl, hS, hlen, hT, q⟩ := h
    refine ⟨_, (pss_cons (ps_set (i := 1) sc_law.nd rfl (Or.inl rfl) (pe_call (ok__law_draws T) (hr.mono (by decide)) (by rfl) T.g__law_draws T.F__law_draws.kp T.b__law_draws .nil pass0 (pa_cons (pv 0) (pa_cons pe_int pa_nil))))
      (pss_cons (ps_set (i := 2) sc_law.nd rfl (Or.inl rfl) (pe_make0 T.M_Sessions (ok_Sessions___init__ T) (hr.mono (by decide)) (by rfl) T.g_Sessions T.b_Sessions___init__ .nil pass0))
      (pss_cons (ps_set (i := 3) sc_law.nd rfl (Or.inl rfl) (pe_make0 T.M_Store (ok_Store___init__ T) (hr.mono (by decide)) (by rfl) T.g_Store T.b_Store___init__ .nil pass0))
      (pss_cons (ps_set (i := 4) sc_law.nd rfl (Or.inl rfl) (pe_tup (pa_cons (pe_lst pa_nil) (pa_cons pe_int (pa_cons (pe_lst pa_nil) pa_nil)))))
      (pss_cons (ps_for PassesOwn.never rfl (pi_range1 (by rfl) T.n_range (pa_cons (pe_op op_add pe_int (pe_op op_mod (pe_callTy call_intN (by rfl) T.n_int (by decide +kernel) (pa_cons (pe_ix (ixK_list (K := K) rfl) (pv 1) pe_int (fun _ _ => rfl)) pa_nil)) pe_int)) pa_nil)) (pg_name (i := 5) sc_law.nd rfl (Or.inl rfl))
        (pss_cons (ps_set (i := 6) sc_law.nd rfl (Or.inl rfl) (pe_slice (slKx_list (K := K) rfl) (pv 1) (po_some (pe_op op_add pe_int (pe_op op_mul pe_int (pv 5)))) (po_some (pe_op op_add pe_int (pe_op op_mul pe_int (pv 5))))))
        (pss_cons (ps_set (i := 7) sc_law.nd rfl (Or.inl rfl) (pe_ix (ixK_list (K := K) rfl) (pe_lst (pa_cons pe_str (pa_cons pe_str (pa_cons pe_str (pa_cons pe_str pa_nil))))) (pe_op op_mod (pe_callTy call_intN (by rfl) T.n_int (by decide +kernel) (pa_cons (pe_ix (ixK_list (K := K) rfl) (pv 6) pe_int (fun _ _ => rfl)) pa_nil)) pe_int) (fun _ _ => rfl)))
        (pss_cons (ps_set (i := 8) sc_law.nd rfl (Or.inl rfl) (pe_callB (call_max2 rfl) (by rfl) T.n_max (by decide +kernel) (pa_cons pe_int (pa_cons (pe_op op_sub (pe_op op_add (pe_ix (ixK_tup (K := K) rfl) (pe_call (ok__law_kept T) (hr.mono (by decide)) (by rfl) T.g__law_kept T.F__law_kept.kp T.b__law_kept .nil pass0 (pa_cons (pe_ix (ixK_tup (K := K) rfl) (pv 4) pe_int (fun _ _ => rfl)) (pa_cons (pv 7) pa_nil))) pe_int (fun _ _ => rfl)) (pe_op op_mod (pe_callTy call_intN (by rfl) T.n_int (by decide +kernel) (pa_cons (pe_ix (ixK_list (K := K) rfl) (pv 6) pe_int (fun _ _ => rfl)) pa_nil)) pe_int)) pe_int) pa_nil))))
        (pss_cons (ps_if (pt_cmpR op_eq (pe_op op_mod (pe_ix (ixK_list (K := K) rfl) (pv 6) pe_int (fun _ _ => rfl)) pe_int) pe_int (nomark _)) (pss_one (ps_set (i := 8) sc_law.nd rfl (Or.inl rfl) (pe_op op_add (pv 8) (pe_op op_mul (pe_ix (ixK_list (K := K) rfl) (pv 1) (pv 5) (fun _ _ => rfl)) pe_int)))) pss_nil)
        (pss_cons (ps_set (i := 9) sc_law.nd rfl (Or.inl rfl) (pe_tup (pa_cons (pv 7) (pa_cons (pv 8) (pa_cons (pe_call (ok__law_transaction T) (hr.mono (by decide)) (by rfl) T.g__law_transaction T.F__law_transaction.kp T.b__law_transaction .nil pass0 (pa_cons (pe_ix (ixK_tup (K := K) rfl) (pv 4) pe_int (fun _ _ => rfl)) (pa_cons (pv 6) pa_nil))) pa_nil)))))
        (pss_cons (ps_asg (pe_call (ok__law_expected T) (hr.mono (by decide)) (by rfl) T.g__law_expected T.F__law_expected.kp T.b__law_expected .nil pass0 (pa_cons (pv 4) (pa_cons (pv 9) pa_nil))) (pgK_tup (K := K) (n := 2) rfl rfl (pgs_cons (pg_name (i := 4) sc_law.nd rfl (Or.inl rfl)) (pgs_cons (pg_name (i := 10) sc_law.nd rfl (Or.inl rfl)) pgs_nil))))
        (pss_cons (ps_if (PW.pt (pw_or (pt_not (pt_val (pe_call (ok__law_same T) (hr.mono (by decide)) (by rfl) T.g__law_same T.F__law_same.kp T.b__law_same .nil pass0 (pa_cons (pe_meth (pv 2) T.K_Sessions T.m_Sessions_run (ok_Sessions_run T TB) (hr.mono (by decide)) T.b_Sessions_run .nil passL (pa_cons (pv 3) (pa_cons (pv 9) pa_nil))) (pa_cons (pv 10) pa_nil))))) (pw_or1 (pt_cmpR op_ne (pe_fldK (K := K) rfl (pv 3) rfl) (pe_ix (ixK_tup (K := K) rfl) (pv 4) pe_int (fun _ _ => rfl)) (nomark _))))) (pss_one (ps_ret pe_bl)) pss_nil)
        (pss_cons (ps_if (pt_cmpR op_eq (pe_op op_mod (pe_ix (ixK_list (K := K) rfl) (pv 6) pe_int (fun _ _ => rfl)) pe_int) pe_int (nomark _)) (pss_one (ps_set (i := 2) sc_law.nd rfl (Or.inl rfl) (pe_smeth (pe_glob (v := .ref T.a_Sessions) (by rfl) T.g_Sessions rfl) T.st_Sessions_from_image T.F_Sessions_from_image.kp (ok_Sessions_from_image T) (hr.mono (by decide)) T.b_Sessions_from_image pass0 (pa_cons (pe_meth0 (pv 2) T.K_Sessions T.m_Sessions_image (ok_Sessions_image T) (hr.mono (by decide)) T.b_Sessions_image .nil pass0) pa_nil)))) pss_nil)
        (pss_one (ps_if (PW.pt (pw_or (pt_not (pt_val (pe_call (ok__law_asks T) (hr.mono (by decide)) (by rfl) T.g__law_asks T.F__law_asks.kp T.b__law_asks .nil pass0 (pa_cons (pv 2) (pa_cons (pe_ix (ixK_tup (K := K) rfl) (pv 4) pe_int (fun _ _ => rfl)) pa_nil))))) (pw_or1 (pt_not (pt_val (pe_call (ok__law_same_entries T) (hr.mono (by decide)) (by rfl) T.g__law_same_entries T.F__law_same_entries.kp T.b__law_same_entries .nil pass0 (pa_cons (pe_meth0 (pv 3) T.K_Store T.m_Store_entries (ok_Store_entries T) (hr.mono (by decide)) T.b_Store_entries .nil pass0) (pa_cons (pe_ix (ixK_tup (K := K) rfl) (pv 4) pe_int (fun _ _ => rfl)) pa_nil)))))))) (pss_one (ps_ret pe_bl)) pss_nil)))))))))))
      (pss_one (ps_ret pe_bl))))))), ?_⟩
    refine ⟨_, rfl, a0, ns, 1800, rfl, hS, hlen, by omega, fun p H1 ds hp s1 hL hD hl => ?_⟩
    dsimp only [L2.gName]
    refine fun a da a1 a2 a3 => ⟨a, da, rfl, upd_same, fun d H2 hd ha2 hd2 keep1 => ⟨rfl, ?_⟩⟩
    have hT1 : LamX.TabS H1 T.pp__sorted_by_key sbkQ := hT.ext fun b o e => s1 b o e
    have k1 : ∀ y o, H1 y = some o → H2 y = some o := fun y o e => by
      have n1 : y ≠ a := fun z => by rw [z, a1] at e; cases e
      have n2 : y ≠ da := fun z => by rw [z, a2] at e; cases e
      exact keep1 y o (by rw [upd_ne n1, upd_ne n2]; exact e) n1
    have hT2 : LamX.TabS H2 T.pp__sorted_by_key sbkQ := hT1.ext k1
    have hL2 := k1 _ _ hL
    dsimp only [L2.gName]
    refine fun x dx h1 h2 h3 => ⟨x, dx, rfl, upd_same, fun t c H3 ht hc htc hs3 ht3 hc3 keep => ⟨rfl, ?_⟩⟩
    have k2 : ∀ y o, H2 y = some o → H3 y = some o := fun y o e => by
      have n1 : y ≠ x := fun z => by rw [z, h1] at e; cases e
      have n2 : y ≠ dx := fun z => by rw [z, h2] at e; cases e
      exact keep y o (by rw [upd_ne n1, upd_ne n2]; exact e) n1
    have hT3 : LamX.TabS H3 T.pp__sorted_by_key sbkQ := hT2.ext k2
    have hL3 := k2 _ _ hL2
    have npc : p ≠ c := fun z => by
      have n1 : p ≠ x := fun z => by rw [z, h1] at hL2; cases hL2
      have n2 : p ≠ dx := fun z => by rw [z, h2] at hL2; cases hL2
      rw [← z, upd_ne n1, upd_ne n2, hL2] at hc
      cases hc
    dsimp only [L2.gName]
    show tSeq _ _ { nx := fun _ H' => Q .non H', rt := Q } (some (.ref a0) :: some (.ref p) :: some (.ref a) :: some (.ref x) :: List.replicate 7 none) H3
    obtain ⟨F, B, hR, hB, hBp⟩ := rel_ss (K := K) hL3 hs3 ht3 hc3 npc hT3 (k2 _ _ ha2) (k2 _ _ hd2)
    refine enterD (K := K) (E := E) (B := B) (ρ := [.u, .d (.list (ds.map .int)), .v (.ref a), .v (.ref x), .u, .u, .u, .u, .u, .u, .u]) (rt := fun r _ => r = .d (.bool true)) hR hB rfl (fun i u hu => ?_) (fun v r m' F' H' B' hk st rl rel => ?_) ?_
    · match i with
      | 0 => cases hu; exact ⟨_, rfl, .inl rfl⟩
      | 1 => cases hu; exact ⟨_, rfl, .inr (.inr ⟨_, _, rfl, rfl, .lst hBp (dqa_nums _ _)⟩)⟩
      | 2 => cases hu; exact ⟨_, rfl, .inr (.inl ⟨_, rfl, rfl⟩)⟩
      | 3 => cases hu; exact ⟨_, rfl, .inr (.inl ⟨_, rfl, rfl⟩)⟩
      | 4 | 5 | 6 | 7 | 8 | 9 | 10 => cases hu; exact ⟨none, rfl, .inl rfl⟩
      | i + 11 => cases hu
    · rw [hk] at rel
      rw [dq_bl rel]
      exact q _
    clear q hL2 hL3 hL s1 hp hS keep keep1 k1 k2 hs3 ht3 hc3 hT3 hT2 hT1 npc h1 h2 h3 ht hc htc hT a1 a2 a3 ha2 hd2 hd hR hB hBp
    obtain ⟨d0, e0, b0⟩ := dr_ix hD (i := 0) (by omega) (by omega)
    have kC := T.K_Store
    have n1 := T.na_Store_revision
    have L1 : Part (rsR K T) (sR K T) (fun m => m.1) (fun m a => (a, m.2)) := Part.left
    have L2 : Part (rsR K T) (seR K T) (fun m => m.2) (fun m a => (m.1, a)) := Part.right
    walk_at "pn"
    walk_at "px"
    have hmod : 0 ≤ d0 % 16 ∧ d0 % 16 < 16 := ⟨Int.emod_nonneg _ (by omega), Int.emod_lt_of_pos _ (by omega)⟩
    have eE : entsD (sm0 x t c).tab = [] := by show entsD [] = []; unfold entsD srtT; simp [srtK]
    refine ws_for ?_
    walk_at "px"
    refine ⟨(SM × SeM) × List KRow, fun s => [.u, .d (.list (ds.map .int)), .v (.ref s.1.2.s), .v (.ref x), .d (stD (entsD s.1.1.tab) s.1.1.rev s.2), .u, .u, .u, .u, .u, .u], fun s => s.1, fun i s => L35 s.1 s.2 i ∧ s.1.1.s = x, nxt ((sm0 x t c, ⟨a, d, []⟩), []) (by rw [eE]; walk_at "wk") rfl ⟨⟨SI.zero, Int.le_refl _, InvK.nil, (fun r hr => by cases hr), Nat.le_refl _⟩, rfl⟩, fun i y s hx hI => ?_, fun s hI => ?_⟩
    · obtain ⟨hi, rfl⟩ := nums_at hx
      clear hx
      obtain ⟨m, ks⟩ := s
      have hI : L35 m ks i ∧ m.1.s = x := hI
      obtain ⟨hL, hs⟩ := hI
      subst hs
      have hi2 : i < 16 := by omega
      have hsi := hL.si
      have r0 := hsi.r0
      have hrv := hL.rv
      have hkl := hL.kl
      clear hi e0 b0 hmod eE
      walk_at "pn"
      refine wg_name ?_
      walk_at "pn"
      show WS _ K E _ [.u, .d (.list (ds.map .int)), .v (.ref m.2.s), .v (.ref m.1.s), .d (.tuple [.list (entsD m.1.tab), .int m.1.rev, .list (ks.map rowD)]), .d (.int (0 + (i : Int))), .u, .u, .u, .u, .u] m _ _ _ _ _
      refine ws_mid [.u, .d (.list (ds.map .int)), .v (.ref m.2.s), .v (.ref m.1.s), .d (.tuple [.list (entsD m.1.tab), .int m.1.rev, .list (ks.map rowD)]), .d (.int (0 + (i : Int))), .o (cutD (ds.map PyData.int) (some (1 + 110 * (0 + (i : Int)))) (some (111 + 110 * (0 + (i : Int))))), .u, .u, .u, .u] (by walk_at "px"; exact rfl) ?_
      rw [cut_at (a := 1 + 110 * i) (n := 110) (by omega) (by omega)]
      have hG : Drawn ((ds.drop (1 + 110 * i)).take 110) := drawn_take _ (drawn_drop _ hD)
      have hgl : ((ds.drop (1 + 110 * i)).take 110).length = 110 := by rw [List.length_take, List.length_drop]; omega
      generalize (ds.drop (1 + 110 * i)).take 110 = gs at hG hgl
      obtain ⟨d6, e6, b6⟩ := dr_ix hG (i := 106) (by omega) (by omega)
      obtain ⟨d7, e7, b7⟩ := dr_ix hG (i := 107) (by omega) (by omega)
      obtain ⟨d8, e8, b8⟩ := dr_ix hG (i := 108) (by omega) (by omega)
      obtain ⟨di, ei, bi⟩ := dr_ix hD (i := i) (by omega) (by omega)
      have ei2 : atI (ds.map PyData.int) (0 + (i : Int)) = some (.int di) := by rw [Int.zero_add]; exact ei
      have bc : CMul di 1009 := .inr ⟨by decide, by decide⟩
      refine ws_freeze 6 rfl ?_
      obtain ⟨z, hz, ez⟩ := at_o4 (d := d6)
      refine ws_mid [.u, .d (.list (ds.map .int)), .v (.ref m.2.s), .v (.ref m.1.s), .d (.tuple [.list (entsD m.1.tab), .int m.1.rev, .list (ks.map rowD)]), .d (.int (0 + (i : Int))), .d (.list (gs.map .int)), .d (.str z), .u, .u, .u] ?_ ?_
      · walk_at "px"
        exact rfl
      refine ws_mid [.u, .d (.list (ds.map .int)), .v (.ref m.2.s), .v (.ref m.1.s), .d (.tuple [.list (entsD m.1.tab), .int m.1.rev, .list (ks.map rowD)]), .d (.int (0 + (i : Int))), .d (.list (gs.map .int)), .d (.str z), .d (.int (max 1 ((keptR ks z).2.1 + d7 % 5 - 1))), .u, .u] ?_ ?_
      · walk_at "px"
        refine we_callP ?_
        walk_at "px"
        refine ⟨⟨_, _, rfl, ks, z, rfl, rfl, by omega⟩, fun r hr2 => ?_⟩
        obtain rfl := hr2 _ _ rfl
        clear hr2
        walk_at "px"
        refine cbP_max ?_
        walk_at "px"
        exact rfl
      walk_at "pn"
      refine ws_seqI Int (fun n => [.u, .d (.list (ds.map .int)), .v (.ref m.2.s), .v (.ref m.1.s), .d (.tuple [.list (entsD m.1.tab), .int m.1.rev, .list (ks.map rowD)]), .d (.int (0 + (i : Int))), .d (.list (gs.map .int)), .d (.str z), .d (.int n), .u, .u]) (fun n => 1 ≤ n) ?_ fun n hn => ?_
      · walk_at "px"
        refine ⟨fun _ => ?_, fun _ => ?_⟩
        · walk_at "px"
          refine nxt (max 1 ((keptR ks z).2.1 + d7 % 5 - 1) + di * 1009) (by walk_at "wk") rfl ?_
          omega
        · walk_at "px"
          refine nxt (max 1 ((keptR ks z).2.1 + d7 % 5 - 1)) (by walk_at "wk") rfl ?_
          omega
      · walk_at "pn"
        walk_at "px"
        refine ⟨⟨⟨_, rfl, hsi.goodE (by omega)⟩, gs, rfl, hG, by omega, by omega⟩, fun y hy => ?_⟩
        obtain ⟨cs, ps, dl, rfl, hg⟩ := hy
        walk_at "px"
        refine we_callP ?_
        walk_at "px"
        refine ⟨⟨_, _, rfl, entsD m.1.tab, m.1.rev, ks, z, n, cs, ps, dl, rfl, rfl, hsi.goodE (by omega), hg, by omega⟩, fun r hr3 => ?_⟩
        have hr3 := hr3 _ _ ks _ _ _ _ _ rfl
        obtain ⟨S, an, hSa⟩ := exp_pair (entsD m.1.tab) m.1.rev ks z n cs ps dl
        rw [hSa] at hr3
        subst hr3
        refine ⟨_, rfl, ?_⟩
        refine wg_tup rfl (wgs_cons (wg_name (wgs_cons (wg_name (wgs_nil ?_)))))
        walk_at "px"
        refine we_callP (wa_cons (we_methA (at_ := fun m => m.2.s) (clsRs T fun _ => rfl) rfl ?_))
        walk_at "px"
        refine ⟨⟨_, _, _, rfl, hg.ok8, hsi.ok (by show m.1.rev ≤ 5000; omega), hL.inv.ok, by have := hL.inv.len; show m.2.kd.length < 90000; omega⟩, fun C m2 ⟨_, _, o, n, x, e, e2, _⟩ => (by cases e; rw [hg.isT] at e2; cases e2), fun r m' hp => ?_⟩
        obtain ⟨hp1, hp2⟩ := hp _ _ _ rfl
        obtain ⟨ks', a', er, eS, hL', es1, es2, hsm⟩ := hL.step hz hn hg hp1 hp2
        rw [hSa] at eS
        cases eS
        subst er
        rw [← es1, ← es2]
        clear hp hp1 hp2 hSa
        walk_at "px"
        refine ⟨⟨_, _, rfl, hsm⟩, fun r hr5 => ?_⟩
        subst hr5
        refine ⟨true, rfl, fun _ => ?_, fun z => (by cases z)⟩
        walk_at "px"
        rw [show stD (entsD m'.1.tab) m'.1.rev ks' = .tuple [.list (entsD m'.1.tab), .int m'.1.rev, .list (ks'.map rowD)] from rfl]
        refine we_fldP (at_ := SM.s) (v := .int m'.1.rev) L1 kC n1 rfl (fun h => by obtain ⟨dx, e⟩ := h.1; exact ⟨dx, _, e, rfl⟩) rfl ?_
        walk_at "px"
        show OpP _ K E _ _ _ rNe (Rk.d (.int m'.1.rev)) _ _
        walk_at "px"
        rw [decide_eq_true (rfl : m'.1.rev = m'.1.rev)]
        refine ⟨fun z => (by cases z), fun _ => ?_⟩
        refine ws_next ?_
        refine ws_seqS SeM (fun s => [.u, .d (.list (ds.map .int)), .v (.ref s.s), .v (.ref m'.1.s), .d (.tuple [.list (entsD m'.1.tab), .int m'.1.rev, .list (ks'.map rowD)]), .u, .u, .u, .u, .u, .u]) (fun s => (m'.1, s)) (fun s => InvK s.kd ks') ?_ fun s2 hs2 => ?_
        · walk_at "px"
          refine ⟨fun _ => ?_, fun _ => ?_⟩
          · walk_at "px"
            refine we_simg L2 ?_
            refine wa_cons (we_methP (at_ := SeM.s) L2 (clsSes fun _ => rfl) rfl ?_)
            walk_at "px"
            obtain ⟨os, ho, hol⟩ := hL'.inv.os
            have hkl' := hL'.kl
            refine ⟨⟨rfl, hL'.inv.ok, os, ho, by omega⟩, fun _ z => z, fun r m5 ⟨em5, ys, os', e1, e2, e3, er5⟩ => ?_⟩
            have em5 : m5 = m'.2 := em5
            subst em5 er5
            have himg : ys.map (rowK m'.2.kd) = ks'.map rowD := hL'.inv.image e1 e2 e3
            refine ⟨True.intro, ?_⟩
            rw [himg]
            walk_at "px"
            intro s3 e4
            refine nxt s3 (by walk_at "wk") rfl ?_
            show InvK s3.kd ks'
            rw [e4]
            exact hL'.inv.img
          · walk_at "px"
            exact nxt m'.2 (by walk_at "wk") rfl hL'.inv
        · have hs2 : InvK s2.kd ks' := hs2
          have hkl' := hL'.kl
          have hsi' := hL'.si
          have hrv' := hL'.rv
          walk_at "px"
          refine we_callAP L2 ?_
          walk_at "px"
          refine ⟨⟨_, rfl, hs2, hL'.gr, by omega⟩, fun r m5 ⟨er5, em5⟩ => ?_⟩
          have em5 : m5 = s2 := em5
          subst em5 er5
          refine ⟨True.intro, ?_⟩
          refine ⟨true, rfl, fun _ => ?_, fun z => (by cases z)⟩
          walk_at "px"
          show WE _ K E _ _ (m'.1, m5) _ _
          refine we_callP (wa_cons (we_methP (at_ := SM.s) L1 (clsS fun _ => rfl) rfl ?_))
          walk_at "px"
          have htl := hsi'.tl
          refine ⟨⟨rfl, hsi'.tab, by show m'.1.tab.length ≤ 80000; omega⟩, fun _ z => z, fun r m6 ⟨em6, er6⟩ => ?_⟩
          have em6 : m6 = m'.1 := em6
          subst em6 er6
          refine ⟨True.intro, ?_⟩
          walk_at "px"
          refine ⟨⟨_, _, rfl, _, rfl, rfl, by rw [ents_len]; show m'.1.tab.length ≤ 40000; omega, smd_row hsi' (by show m'.1.rev ≤ 2000; omega)⟩, fun r hr5 => ?_⟩
          subst hr5
          refine ⟨true, rfl, fun z => (by cases z), fun _ => ?_⟩
          walk_at "px"
          exact nxt ((m'.1, m5), ks') (by walk_at "wk") rfl ⟨⟨hL'.si, hL'.rv, hs2, hL'.gr, hL'.kl⟩, rfl⟩
    · walk_at "px"
      exact rfl
end
theorem all_mk {l : PySem.W.OpenLaw} {w : World} {K : PySem.W.Frag} {h : Heap} {mg : Str → Option Value} {fa : Addr} (X : K.In h) (G : h.Ns mainGlobals mg) (hfa : mg "law" = some (.ref fa)) (hnm : My.TabOf "_sorted_by_key" mg h)
    {C_Sessions : Addr} {e_MajordomoError : Addr} {e_StoreError : Addr} {e_BadTransaction : Addr} {C_Store : Addr} {f_Sessions___init__ : Addr} {od_Sessions___init__ an_Sessions___init__ : Option Addr} {sl_Sessions___init__ : Array (Option Value)} {oc_Sessions___init__ kV_Sessions___init__ dc_Sessions___init__ pm_Sessions___init__ cd_Sessions___init__ ct_Sessions___init__ : Value} {f_Sessions_run : Addr} {od_Sessions_run an_Sessions_run : Option Addr} {sl_Sessions_run : Array (Option Value)} {oc_Sessions_run kV_Sessions_run dc_Sessions_run pm_Sessions_run cd_Sessions_run ct_Sessions_run : Value} {f_Sessions_answer : Addr} {od_Sessions_answer an_Sessions_answer : Option Addr} {sl_Sessions_answer : Array (Option Value)} {oc_Sessions_answer kV_Sessions_answer dc_Sessions_answer pm_Sessions_answer cd_Sessions_answer ct_Sessions_answer : Value} {f_Sessions_last : Addr} {od_Sessions_last an_Sessions_last : Option Addr} {sl_Sessions_last : Array (Option Value)} {oc_Sessions_last kV_Sessions_last dc_Sessions_last pm_Sessions_last cd_Sessions_last ct_Sessions_last : Value} {f_Sessions_image : Addr} {od_Sessions_image an_Sessions_image : Option Addr} {sl_Sessions_image : Array (Option Value)} {oc_Sessions_image kV_Sessions_image dc_Sessions_image pm_Sessions_image cd_Sessions_image ct_Sessions_image : Value} {f_Sessions_from_image : Addr} {od_Sessions_from_image an_Sessions_from_image : Option Addr} {sl_Sessions_from_image : Array (Option Value)} {oc_Sessions_from_image kV_Sessions_from_image dc_Sessions_from_image pm_Sessions_from_image cd_Sessions_from_image ct_Sessions_from_image : Value} {sp_Sessions_from_image : Addr} {sx_Sessions_from_image : List Value} {f_has_plain_characters : Addr} {od_has_plain_characters an_has_plain_characters : Option Addr} {sl_has_plain_characters : Array (Option Value)} {oc_has_plain_characters kV_has_plain_characters dc_has_plain_characters pm_has_plain_characters cd_has_plain_characters ct_has_plain_characters : Value} {f_is_integer_within : Addr} {od_is_integer_within an_is_integer_within : Option Addr} {sl_is_integer_within : Array (Option Value)} {oc_is_integer_within kV_is_integer_within dc_is_integer_within pm_is_integer_within cd_is_integer_within ct_is_integer_within : Value} {f_is_plain_name : Addr} {od_is_plain_name an_is_plain_name : Option Addr} {sl_is_plain_name : Array (Option Value)} {oc_is_plain_name kV_is_plain_name dc_is_plain_name pm_is_plain_name cd_is_plain_name ct_is_plain_name : Value} {f_is_slot_name : Addr} {od_is_slot_name an_is_slot_name : Option Addr} {sl_is_slot_name : Array (Option Value)} {oc_is_slot_name kV_is_slot_name dc_is_slot_name pm_is_slot_name cd_is_slot_name ct_is_slot_name : Value} {f_is_text : Addr} {od_is_text an_is_text : Option Addr} {sl_is_text : Array (Option Value)} {oc_is_text kV_is_text dc_is_text pm_is_text cd_is_text ct_is_text : Value} {f_is_count : Addr} {od_is_count an_is_count : Option Addr} {sl_is_count : Array (Option Value)} {oc_is_count kV_is_count dc_is_count pm_is_count cd_is_count ct_is_count : Value} {f_is_zone : Addr} {od_is_zone an_is_zone : Option Addr} {sl_is_zone : Array (Option Value)} {oc_is_zone kV_is_zone dc_is_zone pm_is_zone cd_is_zone ct_is_zone : Value} {f_is_key : Addr} {od_is_key an_is_key : Option Addr} {sl_is_key : Array (Option Value)} {oc_is_key kV_is_key dc_is_key pm_is_key cd_is_key ct_is_key : Value} {f__is_beat : Addr} {od__is_beat an__is_beat : Option Addr} {sl__is_beat : Array (Option Value)} {oc__is_beat kV__is_beat dc__is_beat pm__is_beat cd__is_beat ct__is_beat : Value} {f__is_drain : Addr} {od__is_drain an__is_drain : Option Addr} {sl__is_drain : Array (Option Value)} {oc__is_drain kV__is_drain dc__is_drain pm__is_drain cd__is_drain ct__is_drain : Value} {f__is_node : Addr} {od__is_node an__is_node : Option Addr} {sl__is_node : Array (Option Value)} {oc__is_node kV__is_node dc__is_node pm__is_node cd__is_node ct__is_node : Value} {f__is_note : Addr} {od__is_note an__is_note : Option Addr} {sl__is_note : Array (Option Value)} {oc__is_note kV__is_note dc__is_note pm__is_note cd__is_note ct__is_note : Value} {f__is_rollout : Addr} {od__is_rollout an__is_rollout : Option Addr} {sl__is_rollout : Array (Option Value)} {oc__is_rollout kV__is_rollout dc__is_rollout pm__is_rollout cd__is_rollout ct__is_rollout : Value} {f__are_open_numbers : Addr} {od__are_open_numbers an__are_open_numbers : Option Addr} {sl__are_open_numbers : Array (Option Value)} {oc__are_open_numbers kV__are_open_numbers dc__are_open_numbers pm__are_open_numbers cd__are_open_numbers ct__are_open_numbers : Value} {f__is_service : Addr} {od__is_service an__is_service : Option Addr} {sl__is_service : Array (Option Value)} {oc__is_service kV__is_service dc__is_service pm__is_service cd__is_service ct__is_service : Value} {f__is_task : Addr} {od__is_task an__is_task : Option Addr} {sl__is_task : Array (Option Value)} {oc__is_task kV__is_task dc__is_task pm__is_task cd__is_task ct__is_task : Value} {f_is_object : Addr} {od_is_object an_is_object : Option Addr} {sl_is_object : Array (Option Value)} {oc_is_object kV_is_object dc_is_object pm_is_object cd_is_object ct_is_object : Value} {f__is_tuple_of : Addr} {od__is_tuple_of an__is_tuple_of : Option Addr} {sl__is_tuple_of : Array (Option Value)} {oc__is_tuple_of kV__is_tuple_of dc__is_tuple_of pm__is_tuple_of cd__is_tuple_of ct__is_tuple_of : Value} {f__is_condition : Addr} {od__is_condition an__is_condition : Option Addr} {sl__is_condition : Array (Option Value)} {oc__is_condition kV__is_condition dc__is_condition pm__is_condition cd__is_condition ct__is_condition : Value} {f__is_put : Addr} {od__is_put an__is_put : Option Addr} {sl__is_put : Array (Option Value)} {oc__is_put kV__is_put dc__is_put pm__is_put cd__is_put ct__is_put : Value} {f__is_delete : Addr} {od__is_delete an__is_delete : Option Addr} {sl__is_delete : Array (Option Value)} {oc__is_delete kV__is_delete dc__is_delete pm__is_delete cd__is_delete ct__is_delete : Value} {f__are_distinct : Addr} {od__are_distinct an__are_distinct : Option Addr} {sl__are_distinct : Array (Option Value)} {oc__are_distinct kV__are_distinct dc__are_distinct pm__are_distinct cd__are_distinct ct__are_distinct : Value} {f_check_transaction : Addr} {od_check_transaction an_check_transaction : Option Addr} {sl_check_transaction : Array (Option Value)} {oc_check_transaction kV_check_transaction dc_check_transaction pm_check_transaction cd_check_transaction ct_check_transaction : Value} {f__sorted_by_key : Addr} {od__sorted_by_key an__sorted_by_key : Option Addr} {sl__sorted_by_key : Array (Option Value)} {oc__sorted_by_key kV__sorted_by_key dc__sorted_by_key pm__sorted_by_key cd__sorted_by_key ct__sorted_by_key : Value} {cc__sorted_by_key pp__sorted_by_key : Addr} {ce__sorted_by_key : Value} {ci__sorted_by_key : Option Addr} {cw__sorted_by_key : Array Value} {cx__sorted_by_key : Array (Option Value)} {f_Store___init__ : Addr} {od_Store___init__ an_Store___init__ : Option Addr} {sl_Store___init__ : Array (Option Value)} {oc_Store___init__ kV_Store___init__ dc_Store___init__ pm_Store___init__ cd_Store___init__ ct_Store___init__ : Value} {f_Store_entry : Addr} {od_Store_entry an_Store_entry : Option Addr} {sl_Store_entry : Array (Option Value)} {oc_Store_entry kV_Store_entry dc_Store_entry pm_Store_entry cd_Store_entry ct_Store_entry : Value} {f_Store_entries : Addr} {od_Store_entries an_Store_entries : Option Addr} {sl_Store_entries : Array (Option Value)} {oc_Store_entries kV_Store_entries dc_Store_entries pm_Store_entries cd_Store_entries ct_Store_entries : Value} {f_Store_apply : Addr} {od_Store_apply an_Store_apply : Option Addr} {sl_Store_apply : Array (Option Value)} {oc_Store_apply kV_Store_apply dc_Store_apply pm_Store_apply cd_Store_apply ct_Store_apply : Value} {f_Store__holds : Addr} {od_Store__holds an_Store__holds : Option Addr} {sl_Store__holds : Array (Option Value)} {oc_Store__holds kV_Store__holds dc_Store__holds pm_Store__holds cd_Store__holds ct_Store__holds : Value} {f_Store__change : Addr} {od_Store__change an_Store__change : Option Addr} {sl_Store__change : Array (Option Value)} {oc_Store__change kV_Store__change dc_Store__change pm_Store__change cd_Store__change ct_Store__change : Value} {f_Store_image : Addr} {od_Store_image an_Store_image : Option Addr} {sl_Store_image : Array (Option Value)} {oc_Store_image kV_Store_image dc_Store_image pm_Store_image cd_Store_image ct_Store_image : Value} {f_Store_from_image : Addr} {od_Store_from_image an_Store_from_image : Option Addr} {sl_Store_from_image : Array (Option Value)} {oc_Store_from_image kV_Store_from_image dc_Store_from_image pm_Store_from_image cd_Store_from_image ct_Store_from_image : Value} {sp_Store_from_image : Addr} {sx_Store_from_image : List Value} {f__law_is_integer : Addr} {od__law_is_integer an__law_is_integer : Option Addr} {sl__law_is_integer : Array (Option Value)} {oc__law_is_integer kV__law_is_integer dc__law_is_integer pm__law_is_integer cd__law_is_integer ct__law_is_integer : Value} {f__law_draws : Addr} {od__law_draws an__law_draws : Option Addr} {sl__law_draws : Array (Option Value)} {oc__law_draws kV__law_draws dc__law_draws pm__law_draws cd__law_draws ct__law_draws : Value} {f__law_name : Addr} {od__law_name an__law_name : Option Addr} {sl__law_name : Array (Option Value)} {oc__law_name kV__law_name dc__law_name pm__law_name cd__law_name ct__law_name : Value} {f__law_text : Addr} {od__law_text an__law_text : Option Addr} {sl__law_text : Array (Option Value)} {oc__law_text kV__law_text dc__law_text pm__law_text cd__law_text ct__law_text : Value} {f__law_zone : Addr} {od__law_zone an__law_zone : Option Addr} {sl__law_zone : Array (Option Value)} {oc__law_zone kV__law_zone dc__law_zone pm__law_zone cd__law_zone ct__law_zone : Value} {f__law_open : Addr} {od__law_open an__law_open : Option Addr} {sl__law_open : Array (Option Value)} {oc__law_open kV__law_open dc__law_open pm__law_open cd__law_open ct__law_open : Value} {f__law_key : Addr} {od__law_key an__law_key : Option Addr} {sl__law_key : Array (Option Value)} {oc__law_key kV__law_key dc__law_key pm__law_key cd__law_key ct__law_key : Value} {f__law_worth : Addr} {od__law_worth an__law_worth : Option Addr} {sl__law_worth : Array (Option Value)} {oc__law_worth kV__law_worth dc__law_worth pm__law_worth cd__law_worth ct__law_worth : Value} {f__law_find : Addr} {od__law_find an__law_find : Option Addr} {sl__law_find : Array (Option Value)} {oc__law_find kV__law_find dc__law_find pm__law_find cd__law_find ct__law_find : Value} {f__law_less : Addr} {od__law_less an__law_less : Option Addr} {sl__law_less : Array (Option Value)} {oc__law_less kV__law_less dc__law_less pm__law_less cd__law_less ct__law_less : Value} {f__law_placed : Addr} {od__law_placed an__law_placed : Option Addr} {sl__law_placed : Array (Option Value)} {oc__law_placed kV__law_placed dc__law_placed pm__law_placed cd__law_placed ct__law_placed : Value} {f__law_failing : Addr} {od__law_failing an__law_failing : Option Addr} {sl__law_failing : Array (Option Value)} {oc__law_failing kV__law_failing dc__law_failing pm__law_failing cd__law_failing ct__law_failing : Value} {f__law_done : Addr} {od__law_done an__law_done : Option Addr} {sl__law_done : Array (Option Value)} {oc__law_done kV__law_done dc__law_done pm__law_done cd__law_done ct__law_done : Value} {f__law_transaction : Addr} {od__law_transaction an__law_transaction : Option Addr} {sl__law_transaction : Array (Option Value)} {oc__law_transaction kV__law_transaction dc__law_transaction pm__law_transaction cd__law_transaction ct__law_transaction : Value} {f__law_same : Addr} {od__law_same an__law_same : Option Addr} {sl__law_same : Array (Option Value)} {oc__law_same kV__law_same dc__law_same pm__law_same cd__law_same ct__law_same : Value} {f__law_same_entries : Addr} {od__law_same_entries an__law_same_entries : Option Addr} {sl__law_same_entries : Array (Option Value)} {oc__law_same_entries kV__law_same_entries dc__law_same_entries pm__law_same_entries cd__law_same_entries ct__law_same_entries : Value} {f__law_kept : Addr} {od__law_kept an__law_kept : Option Addr} {sl__law_kept : Array (Option Value)} {oc__law_kept kV__law_kept dc__law_kept pm__law_kept cd__law_kept ct__law_kept : Value} {f__law_keep : Addr} {od__law_keep an__law_keep : Option Addr} {sl__law_keep : Array (Option Value)} {oc__law_keep kV__law_keep dc__law_keep pm__law_keep cd__law_keep ct__law_keep : Value} {f__law_expected : Addr} {od__law_expected an__law_expected : Option Addr} {sl__law_expected : Array (Option Value)} {oc__law_expected kV__law_expected dc__law_expected pm__law_expected cd__law_expected ct__law_expected : Value} {f__law_asks : Addr} {od__law_asks an__law_asks : Option Addr} {sl__law_asks : Array (Option Value)} {oc__law_asks kV__law_asks dc__law_asks pm__law_asks cd__law_asks ct__law_asks : Value} {f_law : Addr} {od_law an_law : Option Addr} {sl_law : Array (Option Value)} {oc_law kV_law dc_law pm_law cd_law ct_law : Value} {t_SPACE : Tok} {t_PERCENT : Tok} {t_TILDE : Tok} {t_DIGITS : Tok} {ca_KINDS : Addr} {cd0_KINDS : Option Addr} {cn_KINDS : Nat} {cs_KINDS : Array (Option Value)} {cv_KINDS : List Value} {ca_STATES : Addr} {cd0_STATES : Option Addr} {cn_STATES : Nat} {cs_STATES : Array (Option Value)} {cv_STATES : List Value} {t_NAME_CHARACTERS : Tok} {t_MOST_NAME : Tok} {t_MOST_TEXT : Tok} {t_MOST_COUNT : Tok} {t_MOST_NUMBER : Tok} {t_MOST_MEMBERS : Tok} {ca_VALUE_FORMS : Addr} {ce_VALUE_FORMS : Array DictEntry} {cn_VALUE_FORMS : Nat}
    (g_MajordomoError : PySem.W.nsIn K mainGlobals "MajordomoError" = some (some (.ref e_MajordomoError)))
    (x_MajordomoError : PySem.W.excIn K e_MajordomoError [.type "ValueError", .type "Exception", .type "BaseException", .type "object"] "ValueError.__new__" = true)
    (k_MajordomoError : PySem.W.keepIn K (.ref e_MajordomoError) = true)
    (s_MajordomoError : PySem.W.subIn K (.ref e_MajordomoError) (.type "BaseException") = some true)
    (t_MajordomoError : PySem.W.typeIn K (.ref e_MajordomoError) = some (.type "type"))
    (g_StoreError : PySem.W.nsIn K mainGlobals "StoreError" = some (some (.ref e_StoreError)))
    (x_StoreError : PySem.W.excIn K e_StoreError [.type "ValueError", .type "Exception", .type "BaseException", .type "object"] "ValueError.__new__" = true)
    (k_StoreError : PySem.W.keepIn K (.ref e_StoreError) = true)
    (s_StoreError : PySem.W.subIn K (.ref e_StoreError) (.type "BaseException") = some true)
    (t_StoreError : PySem.W.typeIn K (.ref e_StoreError) = some (.type "type"))
    (g_BadTransaction : PySem.W.nsIn K mainGlobals "BadTransaction" = some (some (.ref e_BadTransaction)))
    (x_BadTransaction : PySem.W.excIn K e_BadTransaction [.type "ValueError", .type "Exception", .type "BaseException", .type "object"] "ValueError.__new__" = true)
    (k_BadTransaction : PySem.W.keepIn K (.ref e_BadTransaction) = true)
    (s_BadTransaction : PySem.W.subIn K (.ref e_BadTransaction) (.type "BaseException") = some true)
    (t_BadTransaction : PySem.W.typeIn K (.ref e_BadTransaction) = some (.type "type"))
    (gc_Sessions : PySem.W.nsIn K mainGlobals "Sessions" = some (some (.ref C_Sessions)))
    (m_Sessions___init__ : PySem.W.findIn K (.ref C_Sessions) "__init__" = some (some (.ref f_Sessions___init__)))
    (i_Sessions___init__ : PySem.W.isFn K (.ref f_Sessions___init__) = true)
    (l_Sessions___init__ : K.lookup f_Sessions___init__ = some ⟨oc_Sessions___init__, od_Sessions___init__, .func (PySem.W.fnOf "__init__" "Sessions.__init__" (defArgs s_Sessions___init__) (defBody s_Sessions___init__) (defScope s_Sessions___init__) .none kV_Sessions___init__ dc_Sessions___init__ pm_Sessions___init__ an_Sessions___init__ cd_Sessions___init__ ct_Sessions___init__), sl_Sessions___init__⟩)
    (c_Sessions___init__ : PySem.W.codeIn K cd_Sessions___init__ "Sessions.__init__" = true)
    (k_Sessions___init__ : PySem.W.keepIn K (.ref f_Sessions___init__) = true)
    (m_Sessions_run : PySem.W.findIn K (.ref C_Sessions) "run" = some (some (.ref f_Sessions_run)))
    (i_Sessions_run : PySem.W.isFn K (.ref f_Sessions_run) = true)
    (l_Sessions_run : K.lookup f_Sessions_run = some ⟨oc_Sessions_run, od_Sessions_run, .func (PySem.W.fnOf "run" "Sessions.run" (defArgs s_Sessions_run) (defBody s_Sessions_run) (defScope s_Sessions_run) .none kV_Sessions_run dc_Sessions_run pm_Sessions_run an_Sessions_run cd_Sessions_run ct_Sessions_run), sl_Sessions_run⟩)
    (c_Sessions_run : PySem.W.codeIn K cd_Sessions_run "Sessions.run" = true)
    (k_Sessions_run : PySem.W.keepIn K (.ref f_Sessions_run) = true)
    (m_Sessions_answer : PySem.W.findIn K (.ref C_Sessions) "answer" = some (some (.ref f_Sessions_answer)))
    (i_Sessions_answer : PySem.W.isFn K (.ref f_Sessions_answer) = true)
    (l_Sessions_answer : K.lookup f_Sessions_answer = some ⟨oc_Sessions_answer, od_Sessions_answer, .func (PySem.W.fnOf "answer" "Sessions.answer" (defArgs s_Sessions_answer) (defBody s_Sessions_answer) (defScope s_Sessions_answer) .none kV_Sessions_answer dc_Sessions_answer pm_Sessions_answer an_Sessions_answer cd_Sessions_answer ct_Sessions_answer), sl_Sessions_answer⟩)
    (c_Sessions_answer : PySem.W.codeIn K cd_Sessions_answer "Sessions.answer" = true)
    (k_Sessions_answer : PySem.W.keepIn K (.ref f_Sessions_answer) = true)
    (m_Sessions_last : PySem.W.findIn K (.ref C_Sessions) "last" = some (some (.ref f_Sessions_last)))
    (i_Sessions_last : PySem.W.isFn K (.ref f_Sessions_last) = true)
    (l_Sessions_last : K.lookup f_Sessions_last = some ⟨oc_Sessions_last, od_Sessions_last, .func (PySem.W.fnOf "last" "Sessions.last" (defArgs s_Sessions_last) (defBody s_Sessions_last) (defScope s_Sessions_last) .none kV_Sessions_last dc_Sessions_last pm_Sessions_last an_Sessions_last cd_Sessions_last ct_Sessions_last), sl_Sessions_last⟩)
    (c_Sessions_last : PySem.W.codeIn K cd_Sessions_last "Sessions.last" = true)
    (k_Sessions_last : PySem.W.keepIn K (.ref f_Sessions_last) = true)
    (m_Sessions_image : PySem.W.findIn K (.ref C_Sessions) "image" = some (some (.ref f_Sessions_image)))
    (i_Sessions_image : PySem.W.isFn K (.ref f_Sessions_image) = true)
    (l_Sessions_image : K.lookup f_Sessions_image = some ⟨oc_Sessions_image, od_Sessions_image, .func (PySem.W.fnOf "image" "Sessions.image" (defArgs s_Sessions_image) (defBody s_Sessions_image) (defScope s_Sessions_image) .none kV_Sessions_image dc_Sessions_image pm_Sessions_image an_Sessions_image cd_Sessions_image ct_Sessions_image), sl_Sessions_image⟩)
    (c_Sessions_image : PySem.W.codeIn K cd_Sessions_image "Sessions.image" = true)
    (k_Sessions_image : PySem.W.keepIn K (.ref f_Sessions_image) = true)
    (sr_Sessions_from_image : PySem.W.readsIn K C_Sessions (.type "type") = true)
    (sg_Sessions_from_image : PySem.W.specialIn K (.ref C_Sessions) "__getattribute__" = some (some (.builtin "type.__getattribute__")))
    (sf_Sessions_from_image : PySem.W.findCls K (.ref C_Sessions) (.type "type") "from_image" = some (.get (.builtin "staticmethod.__get__") (.ref sp_Sessions_from_image) .none (.ref C_Sessions)))
    (sq_Sessions_from_image : PySem.W.recIn K sp_Sessions_from_image "staticmethod" = some (.ref f_Sessions_from_image :: sx_Sessions_from_image))
    (l_Sessions_from_image : K.lookup f_Sessions_from_image = some ⟨oc_Sessions_from_image, od_Sessions_from_image, .func (PySem.W.fnOf "from_image" "Sessions.from_image" (defArgs s_Sessions_from_image) (defBody s_Sessions_from_image) (defScope s_Sessions_from_image) .none kV_Sessions_from_image dc_Sessions_from_image pm_Sessions_from_image an_Sessions_from_image cd_Sessions_from_image ct_Sessions_from_image), sl_Sessions_from_image⟩)
    (c_Sessions_from_image : PySem.W.codeIn K cd_Sessions_from_image "Sessions.from_image" = true)
    (k_Sessions_from_image : PySem.W.keepIn K (.ref f_Sessions_from_image) = true)
    (g_has_plain_characters : PySem.W.nsIn K mainGlobals "has_plain_characters" = some (some (.ref f_has_plain_characters)))
    (l_has_plain_characters : K.lookup f_has_plain_characters = some ⟨oc_has_plain_characters, od_has_plain_characters, .func (PySem.W.fnOf "has_plain_characters" "has_plain_characters" (defArgs s_has_plain_characters) (defBody s_has_plain_characters) (defScope s_has_plain_characters) .none kV_has_plain_characters dc_has_plain_characters pm_has_plain_characters an_has_plain_characters cd_has_plain_characters ct_has_plain_characters), sl_has_plain_characters⟩)
    (c_has_plain_characters : PySem.W.codeIn K cd_has_plain_characters "has_plain_characters" = true)
    (k_has_plain_characters : PySem.W.keepIn K (.ref f_has_plain_characters) = true)
    (g_is_integer_within : PySem.W.nsIn K mainGlobals "is_integer_within" = some (some (.ref f_is_integer_within)))
    (l_is_integer_within : K.lookup f_is_integer_within = some ⟨oc_is_integer_within, od_is_integer_within, .func (PySem.W.fnOf "is_integer_within" "is_integer_within" (defArgs s_is_integer_within) (defBody s_is_integer_within) (defScope s_is_integer_within) .none kV_is_integer_within dc_is_integer_within pm_is_integer_within an_is_integer_within cd_is_integer_within ct_is_integer_within), sl_is_integer_within⟩)
    (c_is_integer_within : PySem.W.codeIn K cd_is_integer_within "is_integer_within" = true)
    (k_is_integer_within : PySem.W.keepIn K (.ref f_is_integer_within) = true)
    (g_is_plain_name : PySem.W.nsIn K mainGlobals "is_plain_name" = some (some (.ref f_is_plain_name)))
    (l_is_plain_name : K.lookup f_is_plain_name = some ⟨oc_is_plain_name, od_is_plain_name, .func (PySem.W.fnOf "is_plain_name" "is_plain_name" (defArgs s_is_plain_name) (defBody s_is_plain_name) (defScope s_is_plain_name) .none kV_is_plain_name dc_is_plain_name pm_is_plain_name an_is_plain_name cd_is_plain_name ct_is_plain_name), sl_is_plain_name⟩)
    (c_is_plain_name : PySem.W.codeIn K cd_is_plain_name "is_plain_name" = true)
    (k_is_plain_name : PySem.W.keepIn K (.ref f_is_plain_name) = true)
    (g_is_slot_name : PySem.W.nsIn K mainGlobals "is_slot_name" = some (some (.ref f_is_slot_name)))
    (l_is_slot_name : K.lookup f_is_slot_name = some ⟨oc_is_slot_name, od_is_slot_name, .func (PySem.W.fnOf "is_slot_name" "is_slot_name" (defArgs s_is_slot_name) (defBody s_is_slot_name) (defScope s_is_slot_name) .none kV_is_slot_name dc_is_slot_name pm_is_slot_name an_is_slot_name cd_is_slot_name ct_is_slot_name), sl_is_slot_name⟩)
    (c_is_slot_name : PySem.W.codeIn K cd_is_slot_name "is_slot_name" = true)
    (k_is_slot_name : PySem.W.keepIn K (.ref f_is_slot_name) = true)
    (g_is_text : PySem.W.nsIn K mainGlobals "is_text" = some (some (.ref f_is_text)))
    (l_is_text : K.lookup f_is_text = some ⟨oc_is_text, od_is_text, .func (PySem.W.fnOf "is_text" "is_text" (defArgs s_is_text) (defBody s_is_text) (defScope s_is_text) .none kV_is_text dc_is_text pm_is_text an_is_text cd_is_text ct_is_text), sl_is_text⟩)
    (c_is_text : PySem.W.codeIn K cd_is_text "is_text" = true)
    (k_is_text : PySem.W.keepIn K (.ref f_is_text) = true)
    (g_is_count : PySem.W.nsIn K mainGlobals "is_count" = some (some (.ref f_is_count)))
    (l_is_count : K.lookup f_is_count = some ⟨oc_is_count, od_is_count, .func (PySem.W.fnOf "is_count" "is_count" (defArgs s_is_count) (defBody s_is_count) (defScope s_is_count) .none kV_is_count dc_is_count pm_is_count an_is_count cd_is_count ct_is_count), sl_is_count⟩)
    (c_is_count : PySem.W.codeIn K cd_is_count "is_count" = true)
    (k_is_count : PySem.W.keepIn K (.ref f_is_count) = true)
    (g_is_zone : PySem.W.nsIn K mainGlobals "is_zone" = some (some (.ref f_is_zone)))
    (l_is_zone : K.lookup f_is_zone = some ⟨oc_is_zone, od_is_zone, .func (PySem.W.fnOf "is_zone" "is_zone" (defArgs s_is_zone) (defBody s_is_zone) (defScope s_is_zone) .none kV_is_zone dc_is_zone pm_is_zone an_is_zone cd_is_zone ct_is_zone), sl_is_zone⟩)
    (c_is_zone : PySem.W.codeIn K cd_is_zone "is_zone" = true)
    (k_is_zone : PySem.W.keepIn K (.ref f_is_zone) = true)
    (g_is_key : PySem.W.nsIn K mainGlobals "is_key" = some (some (.ref f_is_key)))
    (l_is_key : K.lookup f_is_key = some ⟨oc_is_key, od_is_key, .func (PySem.W.fnOf "is_key" "is_key" (defArgs s_is_key) (defBody s_is_key) (defScope s_is_key) .none kV_is_key dc_is_key pm_is_key an_is_key cd_is_key ct_is_key), sl_is_key⟩)
    (c_is_key : PySem.W.codeIn K cd_is_key "is_key" = true)
    (k_is_key : PySem.W.keepIn K (.ref f_is_key) = true)
    (g__is_beat : PySem.W.nsIn K mainGlobals "_is_beat" = some (some (.ref f__is_beat)))
    (l__is_beat : K.lookup f__is_beat = some ⟨oc__is_beat, od__is_beat, .func (PySem.W.fnOf "_is_beat" "_is_beat" (defArgs s__is_beat) (defBody s__is_beat) (defScope s__is_beat) .none kV__is_beat dc__is_beat pm__is_beat an__is_beat cd__is_beat ct__is_beat), sl__is_beat⟩)
    (c__is_beat : PySem.W.codeIn K cd__is_beat "_is_beat" = true)
    (k__is_beat : PySem.W.keepIn K (.ref f__is_beat) = true)
    (g__is_drain : PySem.W.nsIn K mainGlobals "_is_drain" = some (some (.ref f__is_drain)))
    (l__is_drain : K.lookup f__is_drain = some ⟨oc__is_drain, od__is_drain, .func (PySem.W.fnOf "_is_drain" "_is_drain" (defArgs s__is_drain) (defBody s__is_drain) (defScope s__is_drain) .none kV__is_drain dc__is_drain pm__is_drain an__is_drain cd__is_drain ct__is_drain), sl__is_drain⟩)
    (c__is_drain : PySem.W.codeIn K cd__is_drain "_is_drain" = true)
    (k__is_drain : PySem.W.keepIn K (.ref f__is_drain) = true)
    (g__is_node : PySem.W.nsIn K mainGlobals "_is_node" = some (some (.ref f__is_node)))
    (l__is_node : K.lookup f__is_node = some ⟨oc__is_node, od__is_node, .func (PySem.W.fnOf "_is_node" "_is_node" (defArgs s__is_node) (defBody s__is_node) (defScope s__is_node) .none kV__is_node dc__is_node pm__is_node an__is_node cd__is_node ct__is_node), sl__is_node⟩)
    (c__is_node : PySem.W.codeIn K cd__is_node "_is_node" = true)
    (k__is_node : PySem.W.keepIn K (.ref f__is_node) = true)
    (g__is_note : PySem.W.nsIn K mainGlobals "_is_note" = some (some (.ref f__is_note)))
    (l__is_note : K.lookup f__is_note = some ⟨oc__is_note, od__is_note, .func (PySem.W.fnOf "_is_note" "_is_note" (defArgs s__is_note) (defBody s__is_note) (defScope s__is_note) .none kV__is_note dc__is_note pm__is_note an__is_note cd__is_note ct__is_note), sl__is_note⟩)
    (c__is_note : PySem.W.codeIn K cd__is_note "_is_note" = true)
    (k__is_note : PySem.W.keepIn K (.ref f__is_note) = true)
    (g__is_rollout : PySem.W.nsIn K mainGlobals "_is_rollout" = some (some (.ref f__is_rollout)))
    (l__is_rollout : K.lookup f__is_rollout = some ⟨oc__is_rollout, od__is_rollout, .func (PySem.W.fnOf "_is_rollout" "_is_rollout" (defArgs s__is_rollout) (defBody s__is_rollout) (defScope s__is_rollout) .none kV__is_rollout dc__is_rollout pm__is_rollout an__is_rollout cd__is_rollout ct__is_rollout), sl__is_rollout⟩)
    (c__is_rollout : PySem.W.codeIn K cd__is_rollout "_is_rollout" = true)
    (k__is_rollout : PySem.W.keepIn K (.ref f__is_rollout) = true)
    (g__are_open_numbers : PySem.W.nsIn K mainGlobals "_are_open_numbers" = some (some (.ref f__are_open_numbers)))
    (l__are_open_numbers : K.lookup f__are_open_numbers = some ⟨oc__are_open_numbers, od__are_open_numbers, .func (PySem.W.fnOf "_are_open_numbers" "_are_open_numbers" (defArgs s__are_open_numbers) (defBody s__are_open_numbers) (defScope s__are_open_numbers) .none kV__are_open_numbers dc__are_open_numbers pm__are_open_numbers an__are_open_numbers cd__are_open_numbers ct__are_open_numbers), sl__are_open_numbers⟩)
    (c__are_open_numbers : PySem.W.codeIn K cd__are_open_numbers "_are_open_numbers" = true)
    (k__are_open_numbers : PySem.W.keepIn K (.ref f__are_open_numbers) = true)
    (g__is_service : PySem.W.nsIn K mainGlobals "_is_service" = some (some (.ref f__is_service)))
    (l__is_service : K.lookup f__is_service = some ⟨oc__is_service, od__is_service, .func (PySem.W.fnOf "_is_service" "_is_service" (defArgs s__is_service) (defBody s__is_service) (defScope s__is_service) .none kV__is_service dc__is_service pm__is_service an__is_service cd__is_service ct__is_service), sl__is_service⟩)
    (c__is_service : PySem.W.codeIn K cd__is_service "_is_service" = true)
    (k__is_service : PySem.W.keepIn K (.ref f__is_service) = true)
    (g__is_task : PySem.W.nsIn K mainGlobals "_is_task" = some (some (.ref f__is_task)))
    (l__is_task : K.lookup f__is_task = some ⟨oc__is_task, od__is_task, .func (PySem.W.fnOf "_is_task" "_is_task" (defArgs s__is_task) (defBody s__is_task) (defScope s__is_task) .none kV__is_task dc__is_task pm__is_task an__is_task cd__is_task ct__is_task), sl__is_task⟩)
    (c__is_task : PySem.W.codeIn K cd__is_task "_is_task" = true)
    (k__is_task : PySem.W.keepIn K (.ref f__is_task) = true)
    (g_is_object : PySem.W.nsIn K mainGlobals "is_object" = some (some (.ref f_is_object)))
    (l_is_object : K.lookup f_is_object = some ⟨oc_is_object, od_is_object, .func (PySem.W.fnOf "is_object" "is_object" (defArgs s_is_object) (defBody s_is_object) (defScope s_is_object) .none kV_is_object dc_is_object pm_is_object an_is_object cd_is_object ct_is_object), sl_is_object⟩)
    (c_is_object : PySem.W.codeIn K cd_is_object "is_object" = true)
    (k_is_object : PySem.W.keepIn K (.ref f_is_object) = true)
    (g__is_tuple_of : PySem.W.nsIn K mainGlobals "_is_tuple_of" = some (some (.ref f__is_tuple_of)))
    (l__is_tuple_of : K.lookup f__is_tuple_of = some ⟨oc__is_tuple_of, od__is_tuple_of, .func (PySem.W.fnOf "_is_tuple_of" "_is_tuple_of" (defArgs s__is_tuple_of) (defBody s__is_tuple_of) (defScope s__is_tuple_of) .none kV__is_tuple_of dc__is_tuple_of pm__is_tuple_of an__is_tuple_of cd__is_tuple_of ct__is_tuple_of), sl__is_tuple_of⟩)
    (c__is_tuple_of : PySem.W.codeIn K cd__is_tuple_of "_is_tuple_of" = true)
    (k__is_tuple_of : PySem.W.keepIn K (.ref f__is_tuple_of) = true)
    (g__is_condition : PySem.W.nsIn K mainGlobals "_is_condition" = some (some (.ref f__is_condition)))
    (l__is_condition : K.lookup f__is_condition = some ⟨oc__is_condition, od__is_condition, .func (PySem.W.fnOf "_is_condition" "_is_condition" (defArgs s__is_condition) (defBody s__is_condition) (defScope s__is_condition) .none kV__is_condition dc__is_condition pm__is_condition an__is_condition cd__is_condition ct__is_condition), sl__is_condition⟩)
    (c__is_condition : PySem.W.codeIn K cd__is_condition "_is_condition" = true)
    (k__is_condition : PySem.W.keepIn K (.ref f__is_condition) = true)
    (g__is_put : PySem.W.nsIn K mainGlobals "_is_put" = some (some (.ref f__is_put)))
    (l__is_put : K.lookup f__is_put = some ⟨oc__is_put, od__is_put, .func (PySem.W.fnOf "_is_put" "_is_put" (defArgs s__is_put) (defBody s__is_put) (defScope s__is_put) .none kV__is_put dc__is_put pm__is_put an__is_put cd__is_put ct__is_put), sl__is_put⟩)
    (c__is_put : PySem.W.codeIn K cd__is_put "_is_put" = true)
    (k__is_put : PySem.W.keepIn K (.ref f__is_put) = true)
    (g__is_delete : PySem.W.nsIn K mainGlobals "_is_delete" = some (some (.ref f__is_delete)))
    (l__is_delete : K.lookup f__is_delete = some ⟨oc__is_delete, od__is_delete, .func (PySem.W.fnOf "_is_delete" "_is_delete" (defArgs s__is_delete) (defBody s__is_delete) (defScope s__is_delete) .none kV__is_delete dc__is_delete pm__is_delete an__is_delete cd__is_delete ct__is_delete), sl__is_delete⟩)
    (c__is_delete : PySem.W.codeIn K cd__is_delete "_is_delete" = true)
    (k__is_delete : PySem.W.keepIn K (.ref f__is_delete) = true)
    (g__are_distinct : PySem.W.nsIn K mainGlobals "_are_distinct" = some (some (.ref f__are_distinct)))
    (l__are_distinct : K.lookup f__are_distinct = some ⟨oc__are_distinct, od__are_distinct, .func (PySem.W.fnOf "_are_distinct" "_are_distinct" (defArgs s__are_distinct) (defBody s__are_distinct) (defScope s__are_distinct) .none kV__are_distinct dc__are_distinct pm__are_distinct an__are_distinct cd__are_distinct ct__are_distinct), sl__are_distinct⟩)
    (c__are_distinct : PySem.W.codeIn K cd__are_distinct "_are_distinct" = true)
    (k__are_distinct : PySem.W.keepIn K (.ref f__are_distinct) = true)
    (g_check_transaction : PySem.W.nsIn K mainGlobals "check_transaction" = some (some (.ref f_check_transaction)))
    (l_check_transaction : K.lookup f_check_transaction = some ⟨oc_check_transaction, od_check_transaction, .func (PySem.W.fnOf "check_transaction" "check_transaction" (defArgs s_check_transaction) (defBody s_check_transaction) (defScope s_check_transaction) .none kV_check_transaction dc_check_transaction pm_check_transaction an_check_transaction cd_check_transaction ct_check_transaction), sl_check_transaction⟩)
    (c_check_transaction : PySem.W.codeIn K cd_check_transaction "check_transaction" = true)
    (k_check_transaction : PySem.W.keepIn K (.ref f_check_transaction) = true)
    (g__sorted_by_key : PySem.W.nsIn K mainGlobals "_sorted_by_key" = some (some (.ref f__sorted_by_key)))
    (l__sorted_by_key : K.lookup f__sorted_by_key = some ⟨oc__sorted_by_key, od__sorted_by_key, .func (PySem.W.fnOf "_sorted_by_key" "_sorted_by_key" (defArgs s__sorted_by_key) (defBody s__sorted_by_key) (defScope s__sorted_by_key) .none kV__sorted_by_key dc__sorted_by_key pm__sorted_by_key an__sorted_by_key cd__sorted_by_key ct__sorted_by_key), sl__sorted_by_key⟩)
    (c__sorted_by_key : PySem.W.codeIn K cd__sorted_by_key "_sorted_by_key" = true)
    (k__sorted_by_key : PySem.W.keepIn K (.ref f__sorted_by_key) = true)
    (hc__sorted_by_key : cd__sorted_by_key = .ref cc__sorted_by_key)
    (lc__sorted_by_key : K.lookup cc__sorted_by_key = some ⟨ce__sorted_by_key, ci__sorted_by_key, .fields cw__sorted_by_key, cx__sorted_by_key⟩)
    (lv__sorted_by_key : cw__sorted_by_key[11]? = some (.ref pp__sorted_by_key))
    (np__sorted_by_key : K.lookup pp__sorted_by_key = none)
    (gc_Store : PySem.W.nsIn K mainGlobals "Store" = some (some (.ref C_Store)))
    (m_Store___init__ : PySem.W.findIn K (.ref C_Store) "__init__" = some (some (.ref f_Store___init__)))
    (i_Store___init__ : PySem.W.isFn K (.ref f_Store___init__) = true)
    (l_Store___init__ : K.lookup f_Store___init__ = some ⟨oc_Store___init__, od_Store___init__, .func (PySem.W.fnOf "__init__" "Store.__init__" (defArgs s_Store___init__) (defBody s_Store___init__) (defScope s_Store___init__) .none kV_Store___init__ dc_Store___init__ pm_Store___init__ an_Store___init__ cd_Store___init__ ct_Store___init__), sl_Store___init__⟩)
    (c_Store___init__ : PySem.W.codeIn K cd_Store___init__ "Store.__init__" = true)
    (k_Store___init__ : PySem.W.keepIn K (.ref f_Store___init__) = true)
    (m_Store_entry : PySem.W.findIn K (.ref C_Store) "entry" = some (some (.ref f_Store_entry)))
    (i_Store_entry : PySem.W.isFn K (.ref f_Store_entry) = true)
    (l_Store_entry : K.lookup f_Store_entry = some ⟨oc_Store_entry, od_Store_entry, .func (PySem.W.fnOf "entry" "Store.entry" (defArgs s_Store_entry) (defBody s_Store_entry) (defScope s_Store_entry) .none kV_Store_entry dc_Store_entry pm_Store_entry an_Store_entry cd_Store_entry ct_Store_entry), sl_Store_entry⟩)
    (c_Store_entry : PySem.W.codeIn K cd_Store_entry "Store.entry" = true)
    (k_Store_entry : PySem.W.keepIn K (.ref f_Store_entry) = true)
    (m_Store_entries : PySem.W.findIn K (.ref C_Store) "entries" = some (some (.ref f_Store_entries)))
    (i_Store_entries : PySem.W.isFn K (.ref f_Store_entries) = true)
    (l_Store_entries : K.lookup f_Store_entries = some ⟨oc_Store_entries, od_Store_entries, .func (PySem.W.fnOf "entries" "Store.entries" (defArgs s_Store_entries) (defBody s_Store_entries) (defScope s_Store_entries) .none kV_Store_entries dc_Store_entries pm_Store_entries an_Store_entries cd_Store_entries ct_Store_entries), sl_Store_entries⟩)
    (c_Store_entries : PySem.W.codeIn K cd_Store_entries "Store.entries" = true)
    (k_Store_entries : PySem.W.keepIn K (.ref f_Store_entries) = true)
    (m_Store_apply : PySem.W.findIn K (.ref C_Store) "apply" = some (some (.ref f_Store_apply)))
    (i_Store_apply : PySem.W.isFn K (.ref f_Store_apply) = true)
    (l_Store_apply : K.lookup f_Store_apply = some ⟨oc_Store_apply, od_Store_apply, .func (PySem.W.fnOf "apply" "Store.apply" (defArgs s_Store_apply) (defBody s_Store_apply) (defScope s_Store_apply) .none kV_Store_apply dc_Store_apply pm_Store_apply an_Store_apply cd_Store_apply ct_Store_apply), sl_Store_apply⟩)
    (c_Store_apply : PySem.W.codeIn K cd_Store_apply "Store.apply" = true)
    (k_Store_apply : PySem.W.keepIn K (.ref f_Store_apply) = true)
    (m_Store__holds : PySem.W.findIn K (.ref C_Store) "_holds" = some (some (.ref f_Store__holds)))
    (i_Store__holds : PySem.W.isFn K (.ref f_Store__holds) = true)
    (l_Store__holds : K.lookup f_Store__holds = some ⟨oc_Store__holds, od_Store__holds, .func (PySem.W.fnOf "_holds" "Store._holds" (defArgs s_Store__holds) (defBody s_Store__holds) (defScope s_Store__holds) .none kV_Store__holds dc_Store__holds pm_Store__holds an_Store__holds cd_Store__holds ct_Store__holds), sl_Store__holds⟩)
    (c_Store__holds : PySem.W.codeIn K cd_Store__holds "Store._holds" = true)
    (k_Store__holds : PySem.W.keepIn K (.ref f_Store__holds) = true)
    (m_Store__change : PySem.W.findIn K (.ref C_Store) "_change" = some (some (.ref f_Store__change)))
    (i_Store__change : PySem.W.isFn K (.ref f_Store__change) = true)
    (l_Store__change : K.lookup f_Store__change = some ⟨oc_Store__change, od_Store__change, .func (PySem.W.fnOf "_change" "Store._change" (defArgs s_Store__change) (defBody s_Store__change) (defScope s_Store__change) .none kV_Store__change dc_Store__change pm_Store__change an_Store__change cd_Store__change ct_Store__change), sl_Store__change⟩)
    (c_Store__change : PySem.W.codeIn K cd_Store__change "Store._change" = true)
    (k_Store__change : PySem.W.keepIn K (.ref f_Store__change) = true)
    (m_Store_image : PySem.W.findIn K (.ref C_Store) "image" = some (some (.ref f_Store_image)))
    (i_Store_image : PySem.W.isFn K (.ref f_Store_image) = true)
    (l_Store_image : K.lookup f_Store_image = some ⟨oc_Store_image, od_Store_image, .func (PySem.W.fnOf "image" "Store.image" (defArgs s_Store_image) (defBody s_Store_image) (defScope s_Store_image) .none kV_Store_image dc_Store_image pm_Store_image an_Store_image cd_Store_image ct_Store_image), sl_Store_image⟩)
    (c_Store_image : PySem.W.codeIn K cd_Store_image "Store.image" = true)
    (k_Store_image : PySem.W.keepIn K (.ref f_Store_image) = true)
    (sr_Store_from_image : PySem.W.readsIn K C_Store (.type "type") = true)
    (sg_Store_from_image : PySem.W.specialIn K (.ref C_Store) "__getattribute__" = some (some (.builtin "type.__getattribute__")))
    (sf_Store_from_image : PySem.W.findCls K (.ref C_Store) (.type "type") "from_image" = some (.get (.builtin "staticmethod.__get__") (.ref sp_Store_from_image) .none (.ref C_Store)))
    (sq_Store_from_image : PySem.W.recIn K sp_Store_from_image "staticmethod" = some (.ref f_Store_from_image :: sx_Store_from_image))
    (l_Store_from_image : K.lookup f_Store_from_image = some ⟨oc_Store_from_image, od_Store_from_image, .func (PySem.W.fnOf "from_image" "Store.from_image" (defArgs s_Store_from_image) (defBody s_Store_from_image) (defScope s_Store_from_image) .none kV_Store_from_image dc_Store_from_image pm_Store_from_image an_Store_from_image cd_Store_from_image ct_Store_from_image), sl_Store_from_image⟩)
    (c_Store_from_image : PySem.W.codeIn K cd_Store_from_image "Store.from_image" = true)
    (k_Store_from_image : PySem.W.keepIn K (.ref f_Store_from_image) = true)
    (g__law_is_integer : PySem.W.nsIn K mainGlobals "_law_is_integer" = some (some (.ref f__law_is_integer)))
    (l__law_is_integer : K.lookup f__law_is_integer = some ⟨oc__law_is_integer, od__law_is_integer, .func (PySem.W.fnOf "_law_is_integer" "_law_is_integer" (defArgs s__law_is_integer) (defBody s__law_is_integer) (defScope s__law_is_integer) .none kV__law_is_integer dc__law_is_integer pm__law_is_integer an__law_is_integer cd__law_is_integer ct__law_is_integer), sl__law_is_integer⟩)
    (c__law_is_integer : PySem.W.codeIn K cd__law_is_integer "_law_is_integer" = true)
    (k__law_is_integer : PySem.W.keepIn K (.ref f__law_is_integer) = true)
    (g__law_draws : PySem.W.nsIn K mainGlobals "_law_draws" = some (some (.ref f__law_draws)))
    (l__law_draws : K.lookup f__law_draws = some ⟨oc__law_draws, od__law_draws, .func (PySem.W.fnOf "_law_draws" "_law_draws" (defArgs s__law_draws) (defBody s__law_draws) (defScope s__law_draws) .none kV__law_draws dc__law_draws pm__law_draws an__law_draws cd__law_draws ct__law_draws), sl__law_draws⟩)
    (c__law_draws : PySem.W.codeIn K cd__law_draws "_law_draws" = true)
    (k__law_draws : PySem.W.keepIn K (.ref f__law_draws) = true)
    (g__law_name : PySem.W.nsIn K mainGlobals "_law_name" = some (some (.ref f__law_name)))
    (l__law_name : K.lookup f__law_name = some ⟨oc__law_name, od__law_name, .func (PySem.W.fnOf "_law_name" "_law_name" (defArgs s__law_name) (defBody s__law_name) (defScope s__law_name) .none kV__law_name dc__law_name pm__law_name an__law_name cd__law_name ct__law_name), sl__law_name⟩)
    (c__law_name : PySem.W.codeIn K cd__law_name "_law_name" = true)
    (k__law_name : PySem.W.keepIn K (.ref f__law_name) = true)
    (g__law_text : PySem.W.nsIn K mainGlobals "_law_text" = some (some (.ref f__law_text)))
    (l__law_text : K.lookup f__law_text = some ⟨oc__law_text, od__law_text, .func (PySem.W.fnOf "_law_text" "_law_text" (defArgs s__law_text) (defBody s__law_text) (defScope s__law_text) .none kV__law_text dc__law_text pm__law_text an__law_text cd__law_text ct__law_text), sl__law_text⟩)
    (c__law_text : PySem.W.codeIn K cd__law_text "_law_text" = true)
    (k__law_text : PySem.W.keepIn K (.ref f__law_text) = true)
    (g__law_zone : PySem.W.nsIn K mainGlobals "_law_zone" = some (some (.ref f__law_zone)))
    (l__law_zone : K.lookup f__law_zone = some ⟨oc__law_zone, od__law_zone, .func (PySem.W.fnOf "_law_zone" "_law_zone" (defArgs s__law_zone) (defBody s__law_zone) (defScope s__law_zone) .none kV__law_zone dc__law_zone pm__law_zone an__law_zone cd__law_zone ct__law_zone), sl__law_zone⟩)
    (c__law_zone : PySem.W.codeIn K cd__law_zone "_law_zone" = true)
    (k__law_zone : PySem.W.keepIn K (.ref f__law_zone) = true)
    (g__law_open : PySem.W.nsIn K mainGlobals "_law_open" = some (some (.ref f__law_open)))
    (l__law_open : K.lookup f__law_open = some ⟨oc__law_open, od__law_open, .func (PySem.W.fnOf "_law_open" "_law_open" (defArgs s__law_open) (defBody s__law_open) (defScope s__law_open) .none kV__law_open dc__law_open pm__law_open an__law_open cd__law_open ct__law_open), sl__law_open⟩)
    (c__law_open : PySem.W.codeIn K cd__law_open "_law_open" = true)
    (k__law_open : PySem.W.keepIn K (.ref f__law_open) = true)
    (g__law_key : PySem.W.nsIn K mainGlobals "_law_key" = some (some (.ref f__law_key)))
    (l__law_key : K.lookup f__law_key = some ⟨oc__law_key, od__law_key, .func (PySem.W.fnOf "_law_key" "_law_key" (defArgs s__law_key) (defBody s__law_key) (defScope s__law_key) .none kV__law_key dc__law_key pm__law_key an__law_key cd__law_key ct__law_key), sl__law_key⟩)
    (c__law_key : PySem.W.codeIn K cd__law_key "_law_key" = true)
    (k__law_key : PySem.W.keepIn K (.ref f__law_key) = true)
    (g__law_worth : PySem.W.nsIn K mainGlobals "_law_worth" = some (some (.ref f__law_worth)))
    (l__law_worth : K.lookup f__law_worth = some ⟨oc__law_worth, od__law_worth, .func (PySem.W.fnOf "_law_worth" "_law_worth" (defArgs s__law_worth) (defBody s__law_worth) (defScope s__law_worth) .none kV__law_worth dc__law_worth pm__law_worth an__law_worth cd__law_worth ct__law_worth), sl__law_worth⟩)
    (c__law_worth : PySem.W.codeIn K cd__law_worth "_law_worth" = true)
    (k__law_worth : PySem.W.keepIn K (.ref f__law_worth) = true)
    (g__law_find : PySem.W.nsIn K mainGlobals "_law_find" = some (some (.ref f__law_find)))
    (l__law_find : K.lookup f__law_find = some ⟨oc__law_find, od__law_find, .func (PySem.W.fnOf "_law_find" "_law_find" (defArgs s__law_find) (defBody s__law_find) (defScope s__law_find) .none kV__law_find dc__law_find pm__law_find an__law_find cd__law_find ct__law_find), sl__law_find⟩)
    (c__law_find : PySem.W.codeIn K cd__law_find "_law_find" = true)
    (k__law_find : PySem.W.keepIn K (.ref f__law_find) = true)
    (g__law_less : PySem.W.nsIn K mainGlobals "_law_less" = some (some (.ref f__law_less)))
    (l__law_less : K.lookup f__law_less = some ⟨oc__law_less, od__law_less, .func (PySem.W.fnOf "_law_less" "_law_less" (defArgs s__law_less) (defBody s__law_less) (defScope s__law_less) .none kV__law_less dc__law_less pm__law_less an__law_less cd__law_less ct__law_less), sl__law_less⟩)
    (c__law_less : PySem.W.codeIn K cd__law_less "_law_less" = true)
    (k__law_less : PySem.W.keepIn K (.ref f__law_less) = true)
    (g__law_placed : PySem.W.nsIn K mainGlobals "_law_placed" = some (some (.ref f__law_placed)))
    (l__law_placed : K.lookup f__law_placed = some ⟨oc__law_placed, od__law_placed, .func (PySem.W.fnOf "_law_placed" "_law_placed" (defArgs s__law_placed) (defBody s__law_placed) (defScope s__law_placed) .none kV__law_placed dc__law_placed pm__law_placed an__law_placed cd__law_placed ct__law_placed), sl__law_placed⟩)
    (c__law_placed : PySem.W.codeIn K cd__law_placed "_law_placed" = true)
    (k__law_placed : PySem.W.keepIn K (.ref f__law_placed) = true)
    (g__law_failing : PySem.W.nsIn K mainGlobals "_law_failing" = some (some (.ref f__law_failing)))
    (l__law_failing : K.lookup f__law_failing = some ⟨oc__law_failing, od__law_failing, .func (PySem.W.fnOf "_law_failing" "_law_failing" (defArgs s__law_failing) (defBody s__law_failing) (defScope s__law_failing) .none kV__law_failing dc__law_failing pm__law_failing an__law_failing cd__law_failing ct__law_failing), sl__law_failing⟩)
    (c__law_failing : PySem.W.codeIn K cd__law_failing "_law_failing" = true)
    (k__law_failing : PySem.W.keepIn K (.ref f__law_failing) = true)
    (g__law_done : PySem.W.nsIn K mainGlobals "_law_done" = some (some (.ref f__law_done)))
    (l__law_done : K.lookup f__law_done = some ⟨oc__law_done, od__law_done, .func (PySem.W.fnOf "_law_done" "_law_done" (defArgs s__law_done) (defBody s__law_done) (defScope s__law_done) .none kV__law_done dc__law_done pm__law_done an__law_done cd__law_done ct__law_done), sl__law_done⟩)
    (c__law_done : PySem.W.codeIn K cd__law_done "_law_done" = true)
    (k__law_done : PySem.W.keepIn K (.ref f__law_done) = true)
    (g__law_transaction : PySem.W.nsIn K mainGlobals "_law_transaction" = some (some (.ref f__law_transaction)))
    (l__law_transaction : K.lookup f__law_transaction = some ⟨oc__law_transaction, od__law_transaction, .func (PySem.W.fnOf "_law_transaction" "_law_transaction" (defArgs s__law_transaction) (defBody s__law_transaction) (defScope s__law_transaction) .none kV__law_transaction dc__law_transaction pm__law_transaction an__law_transaction cd__law_transaction ct__law_transaction), sl__law_transaction⟩)
    (c__law_transaction : PySem.W.codeIn K cd__law_transaction "_law_transaction" = true)
    (k__law_transaction : PySem.W.keepIn K (.ref f__law_transaction) = true)
    (g__law_same : PySem.W.nsIn K mainGlobals "_law_same" = some (some (.ref f__law_same)))
    (l__law_same : K.lookup f__law_same = some ⟨oc__law_same, od__law_same, .func (PySem.W.fnOf "_law_same" "_law_same" (defArgs s__law_same) (defBody s__law_same) (defScope s__law_same) .none kV__law_same dc__law_same pm__law_same an__law_same cd__law_same ct__law_same), sl__law_same⟩)
    (c__law_same : PySem.W.codeIn K cd__law_same "_law_same" = true)
    (k__law_same : PySem.W.keepIn K (.ref f__law_same) = true)
    (g__law_same_entries : PySem.W.nsIn K mainGlobals "_law_same_entries" = some (some (.ref f__law_same_entries)))
    (l__law_same_entries : K.lookup f__law_same_entries = some ⟨oc__law_same_entries, od__law_same_entries, .func (PySem.W.fnOf "_law_same_entries" "_law_same_entries" (defArgs s__law_same_entries) (defBody s__law_same_entries) (defScope s__law_same_entries) .none kV__law_same_entries dc__law_same_entries pm__law_same_entries an__law_same_entries cd__law_same_entries ct__law_same_entries), sl__law_same_entries⟩)
    (c__law_same_entries : PySem.W.codeIn K cd__law_same_entries "_law_same_entries" = true)
    (k__law_same_entries : PySem.W.keepIn K (.ref f__law_same_entries) = true)
    (g__law_kept : PySem.W.nsIn K mainGlobals "_law_kept" = some (some (.ref f__law_kept)))
    (l__law_kept : K.lookup f__law_kept = some ⟨oc__law_kept, od__law_kept, .func (PySem.W.fnOf "_law_kept" "_law_kept" (defArgs s__law_kept) (defBody s__law_kept) (defScope s__law_kept) .none kV__law_kept dc__law_kept pm__law_kept an__law_kept cd__law_kept ct__law_kept), sl__law_kept⟩)
    (c__law_kept : PySem.W.codeIn K cd__law_kept "_law_kept" = true)
    (k__law_kept : PySem.W.keepIn K (.ref f__law_kept) = true)
    (g__law_keep : PySem.W.nsIn K mainGlobals "_law_keep" = some (some (.ref f__law_keep)))
    (l__law_keep : K.lookup f__law_keep = some ⟨oc__law_keep, od__law_keep, .func (PySem.W.fnOf "_law_keep" "_law_keep" (defArgs s__law_keep) (defBody s__law_keep) (defScope s__law_keep) .none kV__law_keep dc__law_keep pm__law_keep an__law_keep cd__law_keep ct__law_keep), sl__law_keep⟩)
    (c__law_keep : PySem.W.codeIn K cd__law_keep "_law_keep" = true)
    (k__law_keep : PySem.W.keepIn K (.ref f__law_keep) = true)
    (g__law_expected : PySem.W.nsIn K mainGlobals "_law_expected" = some (some (.ref f__law_expected)))
    (l__law_expected : K.lookup f__law_expected = some ⟨oc__law_expected, od__law_expected, .func (PySem.W.fnOf "_law_expected" "_law_expected" (defArgs s__law_expected) (defBody s__law_expected) (defScope s__law_expected) .none kV__law_expected dc__law_expected pm__law_expected an__law_expected cd__law_expected ct__law_expected), sl__law_expected⟩)
    (c__law_expected : PySem.W.codeIn K cd__law_expected "_law_expected" = true)
    (k__law_expected : PySem.W.keepIn K (.ref f__law_expected) = true)
    (g__law_asks : PySem.W.nsIn K mainGlobals "_law_asks" = some (some (.ref f__law_asks)))
    (l__law_asks : K.lookup f__law_asks = some ⟨oc__law_asks, od__law_asks, .func (PySem.W.fnOf "_law_asks" "_law_asks" (defArgs s__law_asks) (defBody s__law_asks) (defScope s__law_asks) .none kV__law_asks dc__law_asks pm__law_asks an__law_asks cd__law_asks ct__law_asks), sl__law_asks⟩)
    (c__law_asks : PySem.W.codeIn K cd__law_asks "_law_asks" = true)
    (k__law_asks : PySem.W.keepIn K (.ref f__law_asks) = true)
    (g_law : PySem.W.nsIn K mainGlobals "law" = some (some (.ref f_law)))
    (l_law : K.lookup f_law = some ⟨oc_law, od_law, .func (PySem.W.fnOf "law" "law" (defArgs s_law) (defBody s_law) (defScope s_law) .none kV_law dc_law pm_law an_law cd_law ct_law), sl_law⟩)
    (c_law : PySem.W.codeIn K cd_law "law" = true)
    (k_law : PySem.W.keepIn K (.ref f_law) = true)
    (pg_Sessions : PySem.W.plainGet K C_Sessions Str.empty = true)
    (hd_Sessions : PySem.W.hasDictIn K C_Sessions = true)
    (po_Sessions : PySem.W.plainOver K C_Sessions = true)
    (sa_Sessions : PySem.W.findIn K (.ref C_Sessions) "__setattr__" = some (some (.builtin "object.__setattr__")))
    (mk_Sessions : PySem.W.makesIn K C_Sessions = true)
    (kc_Sessions : PySem.W.keepIn K (.ref C_Sessions) = true)
    (na_Sessions__kept : PySem.W.findIn K (.ref C_Sessions) "_kept" = some none)
    (pg_Store : PySem.W.plainGet K C_Store Str.empty = true)
    (hd_Store : PySem.W.hasDictIn K C_Store = true)
    (po_Store : PySem.W.plainOver K C_Store = true)
    (sa_Store : PySem.W.findIn K (.ref C_Store) "__setattr__" = some (some (.builtin "object.__setattr__")))
    (mk_Store : PySem.W.makesIn K C_Store = true)
    (kc_Store : PySem.W.keepIn K (.ref C_Store) = true)
    (na_Store_revision : PySem.W.findIn K (.ref C_Store) "revision" = some none)
    (na_Store_oldest : PySem.W.findIn K (.ref C_Store) "oldest" = some none)
    (na_Store__table : PySem.W.findIn K (.ref C_Store) "_table" = some none)
    (na_Store__changes : PySem.W.findIn K (.ref C_Store) "_changes" = some none)
    (c_SPACE : PySem.W.nsIn K mainGlobals "SPACE" = some (some (.int 32 t_SPACE)))
    (c_PERCENT : PySem.W.nsIn K mainGlobals "PERCENT" = some (some (.int 37 t_PERCENT)))
    (c_TILDE : PySem.W.nsIn K mainGlobals "TILDE" = some (some (.int 126 t_TILDE)))
    (c_DIGITS : PySem.W.nsIn K mainGlobals "DIGITS" = some (some (.str "0123456789" t_DIGITS)))
    (c_KINDS : PySem.W.nsIn K mainGlobals "KINDS" = some (some (.ref ca_KINDS)))
    (q_KINDS : K.lookup ca_KINDS = some ⟨.type "tuple", cd0_KINDS, .seq cv_KINDS.toArray cn_KINDS, cs_KINDS⟩)
    (v_KINDS : Vals [(.str "beat"), (.str "drain"), (.str "node"), (.str "note"), (.str "rollout"), (.str "service"), (.str "task")] cv_KINDS)
    (c_STATES : PySem.W.nsIn K mainGlobals "STATES" = some (some (.ref ca_STATES)))
    (q_STATES : K.lookup ca_STATES = some ⟨.type "tuple", cd0_STATES, .seq cv_STATES.toArray cn_STATES, cs_STATES⟩)
    (v_STATES : Vals [(.str "new"), (.str "bound"), (.str "running"), (.str "ended")] cv_STATES)
    (c_NAME_CHARACTERS : PySem.W.nsIn K mainGlobals "NAME_CHARACTERS" = some (some (.str "abcdefghijklmnopqrstuvwxyz0123456789" t_NAME_CHARACTERS)))
    (c_MOST_NAME : PySem.W.nsIn K mainGlobals "MOST_NAME" = some (some (.int 12 t_MOST_NAME)))
    (c_MOST_TEXT : PySem.W.nsIn K mainGlobals "MOST_TEXT" = some (some (.int 40 t_MOST_TEXT)))
    (c_MOST_COUNT : PySem.W.nsIn K mainGlobals "MOST_COUNT" = some (some (.int 1000000000000 t_MOST_COUNT)))
    (c_MOST_NUMBER : PySem.W.nsIn K mainGlobals "MOST_NUMBER" = some (some (.int 9 t_MOST_NUMBER)))
    (c_MOST_MEMBERS : PySem.W.nsIn K mainGlobals "MOST_MEMBERS" = some (some (.int 12 t_MOST_MEMBERS)))
    (c_VALUE_FORMS : PySem.W.nsIn K mainGlobals "VALUE_FORMS" = some (some (.ref ca_VALUE_FORMS)))
    (q_VALUE_FORMS : K.lookup ca_VALUE_FORMS = some ⟨.type "dict", none, .dict ce_VALUE_FORMS cn_VALUE_FORMS, #[]⟩)
    (w_VALUE_FORMS : PySem.W.KeysLit w.params ce_VALUE_FORMS.toList)
    (z_VALUE_FORMS : (ca_VALUE_FORMS == sysModules) = false)
    (j_VALUE_FORMS_beat : PySem.W.nsIn K ca_VALUE_FORMS "beat" = some (some (.ref f__is_beat)))
    (j_VALUE_FORMS_drain : PySem.W.nsIn K ca_VALUE_FORMS "drain" = some (some (.ref f__is_drain)))
    (j_VALUE_FORMS_node : PySem.W.nsIn K ca_VALUE_FORMS "node" = some (some (.ref f__is_node)))
    (j_VALUE_FORMS_note : PySem.W.nsIn K ca_VALUE_FORMS "note" = some (some (.ref f__is_note)))
    (j_VALUE_FORMS_rollout : PySem.W.nsIn K ca_VALUE_FORMS "rollout" = some (some (.ref f__is_rollout)))
    (j_VALUE_FORMS_service : PySem.W.nsIn K ca_VALUE_FORMS "service" = some (some (.ref f__is_service)))
    (j_VALUE_FORMS_task : PySem.W.nsIn K ca_VALUE_FORMS "task" = some (some (.ref f__is_task)))
    (n_isinstance : PySem.W.nsIn K mainGlobals "isinstance" = some none)
    (n_int : PySem.W.nsIn K mainGlobals "int" = some none)
    (n_bool : PySem.W.nsIn K mainGlobals "bool" = some none)
    (n_len : PySem.W.nsIn K mainGlobals "len" = some none)
    (n_str : PySem.W.nsIn K mainGlobals "str" = some none)
    (n_all : PySem.W.nsIn K mainGlobals "all" = some none)
    (n_ord : PySem.W.nsIn K mainGlobals "ord" = some none)
    (n_tuple : PySem.W.nsIn K mainGlobals "tuple" = some none)
    (n_list : PySem.W.nsIn K mainGlobals "list" = some none)
    (n_sorted : PySem.W.nsIn K mainGlobals "sorted" = some none)
    (n_range : PySem.W.nsIn K mainGlobals "range" = some none)
    (n_abs : PySem.W.nsIn K mainGlobals "abs" = some none)
    (n_max : PySem.W.nsIn K mainGlobals "max" = some none) :
    LamX.LawAtS l w K CX0 15 63 "script" mg fa h := by
  have e : fa = f_law := by
    have z := hfa.symm.trans (PySem.W.mg_of X G g_law)
    injection z with z
    injection z
  rw [e]
  let T : TX K mg w := ⟨C_Sessions, e_MajordomoError, (PySem.W.mg_of X G g_MajordomoError), x_MajordomoError, k_MajordomoError, s_MajordomoError, t_MajordomoError, e_StoreError, (PySem.W.mg_of X G g_StoreError), x_StoreError, k_StoreError, s_StoreError, t_StoreError, e_BadTransaction, (PySem.W.mg_of X G g_BadTransaction), x_BadTransaction, k_BadTransaction, s_BadTransaction, t_BadTransaction, C_Store, f_Sessions___init__, (PySem.W.fnOf "__init__" "Sessions.__init__" (defArgs s_Sessions___init__) (defBody s_Sessions___init__) (defScope s_Sessions___init__) .none kV_Sessions___init__ dc_Sessions___init__ pm_Sessions___init__ an_Sessions___init__ cd_Sessions___init__ ct_Sessions___init__), (fun_mk (st := s_Sessions___init__) l_Sessions___init__ c_Sessions___init__ k_Sessions___init__), ((fun_mk (st := s_Sessions___init__) l_Sessions___init__ c_Sessions___init__ k_Sessions___init__).binds (ps := ["self"]) fun _ _ _ _ _ _ us hl => match us, hl with | [_], _ => rfl), f_Sessions_run, (PySem.W.fnOf "run" "Sessions.run" (defArgs s_Sessions_run) (defBody s_Sessions_run) (defScope s_Sessions_run) .none kV_Sessions_run dc_Sessions_run pm_Sessions_run an_Sessions_run cd_Sessions_run ct_Sessions_run), (fun_mk (st := s_Sessions_run) l_Sessions_run c_Sessions_run k_Sessions_run), ((fun_mk (st := s_Sessions_run) l_Sessions_run c_Sessions_run k_Sessions_run).binds (ps := ["self", "store", "command"]) fun _ _ _ _ _ _ us hl => match us, hl with | [_, _, _], _ => rfl), ⟨m_Sessions_run, i_Sessions_run, k_Sessions_run⟩, f_Sessions_answer, (PySem.W.fnOf "answer" "Sessions.answer" (defArgs s_Sessions_answer) (defBody s_Sessions_answer) (defScope s_Sessions_answer) .none kV_Sessions_answer dc_Sessions_answer pm_Sessions_answer an_Sessions_answer cd_Sessions_answer ct_Sessions_answer), (fun_mk (st := s_Sessions_answer) l_Sessions_answer c_Sessions_answer k_Sessions_answer), ((fun_mk (st := s_Sessions_answer) l_Sessions_answer c_Sessions_answer k_Sessions_answer).binds (ps := ["self", "origin", "number"]) fun _ _ _ _ _ _ us hl => match us, hl with | [_, _, _], _ => rfl), ⟨m_Sessions_answer, i_Sessions_answer, k_Sessions_answer⟩, f_Sessions_last, (PySem.W.fnOf "last" "Sessions.last" (defArgs s_Sessions_last) (defBody s_Sessions_last) (defScope s_Sessions_last) .none kV_Sessions_last dc_Sessions_last pm_Sessions_last an_Sessions_last cd_Sessions_last ct_Sessions_last), (fun_mk (st := s_Sessions_last) l_Sessions_last c_Sessions_last k_Sessions_last), ((fun_mk (st := s_Sessions_last) l_Sessions_last c_Sessions_last k_Sessions_last).binds (ps := ["self", "origin"]) fun _ _ _ _ _ _ us hl => match us, hl with | [_, _], _ => rfl), ⟨m_Sessions_last, i_Sessions_last, k_Sessions_last⟩, f_Sessions_image, (PySem.W.fnOf "image" "Sessions.image" (defArgs s_Sessions_image) (defBody s_Sessions_image) (defScope s_Sessions_image) .none kV_Sessions_image dc_Sessions_image pm_Sessions_image an_Sessions_image cd_Sessions_image ct_Sessions_image), (fun_mk (st := s_Sessions_image) l_Sessions_image c_Sessions_image k_Sessions_image), ((fun_mk (st := s_Sessions_image) l_Sessions_image c_Sessions_image k_Sessions_image).binds (ps := ["self"]) fun _ _ _ _ _ _ us hl => match us, hl with | [_], _ => rfl), ⟨m_Sessions_image, i_Sessions_image, k_Sessions_image⟩, f_Sessions_from_image, (PySem.W.fnOf "from_image" "Sessions.from_image" (defArgs s_Sessions_from_image) (defBody s_Sessions_from_image) (defScope s_Sessions_from_image) .none kV_Sessions_from_image dc_Sessions_from_image pm_Sessions_from_image an_Sessions_from_image cd_Sessions_from_image ct_Sessions_from_image), (fun_mk (st := s_Sessions_from_image) l_Sessions_from_image c_Sessions_from_image k_Sessions_from_image), ((fun_mk (st := s_Sessions_from_image) l_Sessions_from_image c_Sessions_from_image k_Sessions_from_image).binds (ps := ["image"]) fun _ _ _ _ _ _ us hl => match us, hl with | [_], _ => rfl), sp_Sessions_from_image, ⟨sr_Sessions_from_image, sg_Sessions_from_image, sf_Sessions_from_image, ⟨_, sq_Sessions_from_image⟩⟩, f_has_plain_characters, (PySem.W.fnOf "has_plain_characters" "has_plain_characters" (defArgs s_has_plain_characters) (defBody s_has_plain_characters) (defScope s_has_plain_characters) .none kV_has_plain_characters dc_has_plain_characters pm_has_plain_characters an_has_plain_characters cd_has_plain_characters ct_has_plain_characters), (fun_mk (st := s_has_plain_characters) l_has_plain_characters c_has_plain_characters k_has_plain_characters), ((fun_mk (st := s_has_plain_characters) l_has_plain_characters c_has_plain_characters k_has_plain_characters).binds (ps := ["text"]) fun _ _ _ _ _ _ us hl => match us, hl with | [_], _ => rfl), (PySem.W.mg_of X G g_has_plain_characters), f_is_integer_within, (PySem.W.fnOf "is_integer_within" "is_integer_within" (defArgs s_is_integer_within) (defBody s_is_integer_within) (defScope s_is_integer_within) .none kV_is_integer_within dc_is_integer_within pm_is_integer_within an_is_integer_within cd_is_integer_within ct_is_integer_within), (fun_mk (st := s_is_integer_within) l_is_integer_within c_is_integer_within k_is_integer_within), ((fun_mk (st := s_is_integer_within) l_is_integer_within c_is_integer_within k_is_integer_within).binds (ps := ["number", "low", "high"]) fun _ _ _ _ _ _ us hl => match us, hl with | [_, _, _], _ => rfl), (PySem.W.mg_of X G g_is_integer_within), f_is_plain_name, (PySem.W.fnOf "is_plain_name" "is_plain_name" (defArgs s_is_plain_name) (defBody s_is_plain_name) (defScope s_is_plain_name) .none kV_is_plain_name dc_is_plain_name pm_is_plain_name an_is_plain_name cd_is_plain_name ct_is_plain_name), (fun_mk (st := s_is_plain_name) l_is_plain_name c_is_plain_name k_is_plain_name), ((fun_mk (st := s_is_plain_name) l_is_plain_name c_is_plain_name k_is_plain_name).binds (ps := ["name"]) fun _ _ _ _ _ _ us hl => match us, hl with | [_], _ => rfl), (PySem.W.mg_of X G g_is_plain_name), f_is_slot_name, (PySem.W.fnOf "is_slot_name" "is_slot_name" (defArgs s_is_slot_name) (defBody s_is_slot_name) (defScope s_is_slot_name) .none kV_is_slot_name dc_is_slot_name pm_is_slot_name an_is_slot_name cd_is_slot_name ct_is_slot_name), (fun_mk (st := s_is_slot_name) l_is_slot_name c_is_slot_name k_is_slot_name), ((fun_mk (st := s_is_slot_name) l_is_slot_name c_is_slot_name k_is_slot_name).binds (ps := ["name"]) fun _ _ _ _ _ _ us hl => match us, hl with | [_], _ => rfl), (PySem.W.mg_of X G g_is_slot_name), f_is_text, (PySem.W.fnOf "is_text" "is_text" (defArgs s_is_text) (defBody s_is_text) (defScope s_is_text) .none kV_is_text dc_is_text pm_is_text an_is_text cd_is_text ct_is_text), (fun_mk (st := s_is_text) l_is_text c_is_text k_is_text), ((fun_mk (st := s_is_text) l_is_text c_is_text k_is_text).binds (ps := ["text"]) fun _ _ _ _ _ _ us hl => match us, hl with | [_], _ => rfl), (PySem.W.mg_of X G g_is_text), f_is_count, (PySem.W.fnOf "is_count" "is_count" (defArgs s_is_count) (defBody s_is_count) (defScope s_is_count) .none kV_is_count dc_is_count pm_is_count an_is_count cd_is_count ct_is_count), (fun_mk (st := s_is_count) l_is_count c_is_count k_is_count), ((fun_mk (st := s_is_count) l_is_count c_is_count k_is_count).binds (ps := ["number"]) fun _ _ _ _ _ _ us hl => match us, hl with | [_], _ => rfl), (PySem.W.mg_of X G g_is_count), f_is_zone, (PySem.W.fnOf "is_zone" "is_zone" (defArgs s_is_zone) (defBody s_is_zone) (defScope s_is_zone) .none kV_is_zone dc_is_zone pm_is_zone an_is_zone cd_is_zone ct_is_zone), (fun_mk (st := s_is_zone) l_is_zone c_is_zone k_is_zone), ((fun_mk (st := s_is_zone) l_is_zone c_is_zone k_is_zone).binds (ps := ["zone"]) fun _ _ _ _ _ _ us hl => match us, hl with | [_], _ => rfl), (PySem.W.mg_of X G g_is_zone), f_is_key, (PySem.W.fnOf "is_key" "is_key" (defArgs s_is_key) (defBody s_is_key) (defScope s_is_key) .none kV_is_key dc_is_key pm_is_key an_is_key cd_is_key ct_is_key), (fun_mk (st := s_is_key) l_is_key c_is_key k_is_key), ((fun_mk (st := s_is_key) l_is_key c_is_key k_is_key).binds (ps := ["kind", "name"]) fun _ _ _ _ _ _ us hl => match us, hl with | [_, _], _ => rfl), (PySem.W.mg_of X G g_is_key), f__is_beat, (PySem.W.fnOf "_is_beat" "_is_beat" (defArgs s__is_beat) (defBody s__is_beat) (defScope s__is_beat) .none kV__is_beat dc__is_beat pm__is_beat an__is_beat cd__is_beat ct__is_beat), (fun_mk (st := s__is_beat) l__is_beat c__is_beat k__is_beat), ((fun_mk (st := s__is_beat) l__is_beat c__is_beat k__is_beat).binds (ps := ["value"]) fun _ _ _ _ _ _ us hl => match us, hl with | [_], _ => rfl), (PySem.W.mg_of X G g__is_beat), f__is_drain, (PySem.W.fnOf "_is_drain" "_is_drain" (defArgs s__is_drain) (defBody s__is_drain) (defScope s__is_drain) .none kV__is_drain dc__is_drain pm__is_drain an__is_drain cd__is_drain ct__is_drain), (fun_mk (st := s__is_drain) l__is_drain c__is_drain k__is_drain), ((fun_mk (st := s__is_drain) l__is_drain c__is_drain k__is_drain).binds (ps := ["value"]) fun _ _ _ _ _ _ us hl => match us, hl with | [_], _ => rfl), (PySem.W.mg_of X G g__is_drain), f__is_node, (PySem.W.fnOf "_is_node" "_is_node" (defArgs s__is_node) (defBody s__is_node) (defScope s__is_node) .none kV__is_node dc__is_node pm__is_node an__is_node cd__is_node ct__is_node), (fun_mk (st := s__is_node) l__is_node c__is_node k__is_node), ((fun_mk (st := s__is_node) l__is_node c__is_node k__is_node).binds (ps := ["value"]) fun _ _ _ _ _ _ us hl => match us, hl with | [_], _ => rfl), (PySem.W.mg_of X G g__is_node), f__is_note, (PySem.W.fnOf "_is_note" "_is_note" (defArgs s__is_note) (defBody s__is_note) (defScope s__is_note) .none kV__is_note dc__is_note pm__is_note an__is_note cd__is_note ct__is_note), (fun_mk (st := s__is_note) l__is_note c__is_note k__is_note), ((fun_mk (st := s__is_note) l__is_note c__is_note k__is_note).binds (ps := ["value"]) fun _ _ _ _ _ _ us hl => match us, hl with | [_], _ => rfl), (PySem.W.mg_of X G g__is_note), f__is_rollout, (PySem.W.fnOf "_is_rollout" "_is_rollout" (defArgs s__is_rollout) (defBody s__is_rollout) (defScope s__is_rollout) .none kV__is_rollout dc__is_rollout pm__is_rollout an__is_rollout cd__is_rollout ct__is_rollout), (fun_mk (st := s__is_rollout) l__is_rollout c__is_rollout k__is_rollout), ((fun_mk (st := s__is_rollout) l__is_rollout c__is_rollout k__is_rollout).binds (ps := ["value"]) fun _ _ _ _ _ _ us hl => match us, hl with | [_], _ => rfl), (PySem.W.mg_of X G g__is_rollout), f__are_open_numbers, (PySem.W.fnOf "_are_open_numbers" "_are_open_numbers" (defArgs s__are_open_numbers) (defBody s__are_open_numbers) (defScope s__are_open_numbers) .none kV__are_open_numbers dc__are_open_numbers pm__are_open_numbers an__are_open_numbers cd__are_open_numbers ct__are_open_numbers), (fun_mk (st := s__are_open_numbers) l__are_open_numbers c__are_open_numbers k__are_open_numbers), ((fun_mk (st := s__are_open_numbers) l__are_open_numbers c__are_open_numbers k__are_open_numbers).binds (ps := ["numbers"]) fun _ _ _ _ _ _ us hl => match us, hl with | [_], _ => rfl), (PySem.W.mg_of X G g__are_open_numbers), f__is_service, (PySem.W.fnOf "_is_service" "_is_service" (defArgs s__is_service) (defBody s__is_service) (defScope s__is_service) .none kV__is_service dc__is_service pm__is_service an__is_service cd__is_service ct__is_service), (fun_mk (st := s__is_service) l__is_service c__is_service k__is_service), ((fun_mk (st := s__is_service) l__is_service c__is_service k__is_service).binds (ps := ["value"]) fun _ _ _ _ _ _ us hl => match us, hl with | [_], _ => rfl), (PySem.W.mg_of X G g__is_service), f__is_task, (PySem.W.fnOf "_is_task" "_is_task" (defArgs s__is_task) (defBody s__is_task) (defScope s__is_task) .none kV__is_task dc__is_task pm__is_task an__is_task cd__is_task ct__is_task), (fun_mk (st := s__is_task) l__is_task c__is_task k__is_task), ((fun_mk (st := s__is_task) l__is_task c__is_task k__is_task).binds (ps := ["value"]) fun _ _ _ _ _ _ us hl => match us, hl with | [_], _ => rfl), (PySem.W.mg_of X G g__is_task), f_is_object, (PySem.W.fnOf "is_object" "is_object" (defArgs s_is_object) (defBody s_is_object) (defScope s_is_object) .none kV_is_object dc_is_object pm_is_object an_is_object cd_is_object ct_is_object), (fun_mk (st := s_is_object) l_is_object c_is_object k_is_object), ((fun_mk (st := s_is_object) l_is_object c_is_object k_is_object).binds (ps := ["kind", "name", "value"]) fun _ _ _ _ _ _ us hl => match us, hl with | [_, _, _], _ => rfl), (PySem.W.mg_of X G g_is_object), f__is_tuple_of, (PySem.W.fnOf "_is_tuple_of" "_is_tuple_of" (defArgs s__is_tuple_of) (defBody s__is_tuple_of) (defScope s__is_tuple_of) .none kV__is_tuple_of dc__is_tuple_of pm__is_tuple_of an__is_tuple_of cd__is_tuple_of ct__is_tuple_of), (fun_mk (st := s__is_tuple_of) l__is_tuple_of c__is_tuple_of k__is_tuple_of), ((fun_mk (st := s__is_tuple_of) l__is_tuple_of c__is_tuple_of k__is_tuple_of).binds (ps := ["value", "size"]) fun _ _ _ _ _ _ us hl => match us, hl with | [_, _], _ => rfl), (PySem.W.mg_of X G g__is_tuple_of), f__is_condition, (PySem.W.fnOf "_is_condition" "_is_condition" (defArgs s__is_condition) (defBody s__is_condition) (defScope s__is_condition) .none kV__is_condition dc__is_condition pm__is_condition an__is_condition cd__is_condition ct__is_condition), (fun_mk (st := s__is_condition) l__is_condition c__is_condition k__is_condition), ((fun_mk (st := s__is_condition) l__is_condition c__is_condition k__is_condition).binds (ps := ["condition"]) fun _ _ _ _ _ _ us hl => match us, hl with | [_], _ => rfl), (PySem.W.mg_of X G g__is_condition), f__is_put, (PySem.W.fnOf "_is_put" "_is_put" (defArgs s__is_put) (defBody s__is_put) (defScope s__is_put) .none kV__is_put dc__is_put pm__is_put an__is_put cd__is_put ct__is_put), (fun_mk (st := s__is_put) l__is_put c__is_put k__is_put), ((fun_mk (st := s__is_put) l__is_put c__is_put k__is_put).binds (ps := ["put"]) fun _ _ _ _ _ _ us hl => match us, hl with | [_], _ => rfl), (PySem.W.mg_of X G g__is_put), f__is_delete, (PySem.W.fnOf "_is_delete" "_is_delete" (defArgs s__is_delete) (defBody s__is_delete) (defScope s__is_delete) .none kV__is_delete dc__is_delete pm__is_delete an__is_delete cd__is_delete ct__is_delete), (fun_mk (st := s__is_delete) l__is_delete c__is_delete k__is_delete), ((fun_mk (st := s__is_delete) l__is_delete c__is_delete k__is_delete).binds (ps := ["delete"]) fun _ _ _ _ _ _ us hl => match us, hl with | [_], _ => rfl), (PySem.W.mg_of X G g__is_delete), f__are_distinct, (PySem.W.fnOf "_are_distinct" "_are_distinct" (defArgs s__are_distinct) (defBody s__are_distinct) (defScope s__are_distinct) .none kV__are_distinct dc__are_distinct pm__are_distinct an__are_distinct cd__are_distinct ct__are_distinct), (fun_mk (st := s__are_distinct) l__are_distinct c__are_distinct k__are_distinct), ((fun_mk (st := s__are_distinct) l__are_distinct c__are_distinct k__are_distinct).binds (ps := ["keys"]) fun _ _ _ _ _ _ us hl => match us, hl with | [_], _ => rfl), (PySem.W.mg_of X G g__are_distinct), f_check_transaction, (PySem.W.fnOf "check_transaction" "check_transaction" (defArgs s_check_transaction) (defBody s_check_transaction) (defScope s_check_transaction) .none kV_check_transaction dc_check_transaction pm_check_transaction an_check_transaction cd_check_transaction ct_check_transaction), (fun_mk (st := s_check_transaction) l_check_transaction c_check_transaction k_check_transaction), ((fun_mk (st := s_check_transaction) l_check_transaction c_check_transaction k_check_transaction).binds (ps := ["transaction"]) fun _ _ _ _ _ _ us hl => match us, hl with | [_], _ => rfl), (PySem.W.mg_of X G g_check_transaction), f__sorted_by_key, (PySem.W.fnOf "_sorted_by_key" "_sorted_by_key" (defArgs s__sorted_by_key) (defBody s__sorted_by_key) (defScope s__sorted_by_key) .none kV__sorted_by_key dc__sorted_by_key pm__sorted_by_key an__sorted_by_key cd__sorted_by_key ct__sorted_by_key), cc__sorted_by_key, pp__sorted_by_key, (show (PySem.FuncData.code (PySem.W.fnOf "_sorted_by_key" "_sorted_by_key" (defArgs s__sorted_by_key) (defBody s__sorted_by_key) (defScope s__sorted_by_key) .none kV__sorted_by_key dc__sorted_by_key pm__sorted_by_key an__sorted_by_key cd__sorted_by_key ct__sorted_by_key)) = .ref cc__sorted_by_key from hc__sorted_by_key), (fun_mk (st := s__sorted_by_key) l__sorted_by_key c__sorted_by_key k__sorted_by_key), ((fun_mk (st := s__sorted_by_key) l__sorted_by_key c__sorted_by_key k__sorted_by_key).binds (ps := ["members"]) fun _ _ _ _ _ _ us hl => match us, hl with | [_], _ => rfl), (PySem.W.mg_of X G g__sorted_by_key), f_Store___init__, (PySem.W.fnOf "__init__" "Store.__init__" (defArgs s_Store___init__) (defBody s_Store___init__) (defScope s_Store___init__) .none kV_Store___init__ dc_Store___init__ pm_Store___init__ an_Store___init__ cd_Store___init__ ct_Store___init__), (fun_mk (st := s_Store___init__) l_Store___init__ c_Store___init__ k_Store___init__), ((fun_mk (st := s_Store___init__) l_Store___init__ c_Store___init__ k_Store___init__).binds (ps := ["self"]) fun _ _ _ _ _ _ us hl => match us, hl with | [_], _ => rfl), f_Store_entry, (PySem.W.fnOf "entry" "Store.entry" (defArgs s_Store_entry) (defBody s_Store_entry) (defScope s_Store_entry) .none kV_Store_entry dc_Store_entry pm_Store_entry an_Store_entry cd_Store_entry ct_Store_entry), (fun_mk (st := s_Store_entry) l_Store_entry c_Store_entry k_Store_entry), ((fun_mk (st := s_Store_entry) l_Store_entry c_Store_entry k_Store_entry).binds (ps := ["self", "kind", "name"]) fun _ _ _ _ _ _ us hl => match us, hl with | [_, _, _], _ => rfl), ⟨m_Store_entry, i_Store_entry, k_Store_entry⟩, f_Store_entries, (PySem.W.fnOf "entries" "Store.entries" (defArgs s_Store_entries) (defBody s_Store_entries) (defScope s_Store_entries) .none kV_Store_entries dc_Store_entries pm_Store_entries an_Store_entries cd_Store_entries ct_Store_entries), (fun_mk (st := s_Store_entries) l_Store_entries c_Store_entries k_Store_entries), ((fun_mk (st := s_Store_entries) l_Store_entries c_Store_entries k_Store_entries).binds (ps := ["self"]) fun _ _ _ _ _ _ us hl => match us, hl with | [_], _ => rfl), ⟨m_Store_entries, i_Store_entries, k_Store_entries⟩, f_Store_apply, (PySem.W.fnOf "apply" "Store.apply" (defArgs s_Store_apply) (defBody s_Store_apply) (defScope s_Store_apply) .none kV_Store_apply dc_Store_apply pm_Store_apply an_Store_apply cd_Store_apply ct_Store_apply), (fun_mk (st := s_Store_apply) l_Store_apply c_Store_apply k_Store_apply), ((fun_mk (st := s_Store_apply) l_Store_apply c_Store_apply k_Store_apply).binds (ps := ["self", "transaction"]) fun _ _ _ _ _ _ us hl => match us, hl with | [_, _], _ => rfl), ⟨m_Store_apply, i_Store_apply, k_Store_apply⟩, f_Store__holds, (PySem.W.fnOf "_holds" "Store._holds" (defArgs s_Store__holds) (defBody s_Store__holds) (defScope s_Store__holds) .none kV_Store__holds dc_Store__holds pm_Store__holds an_Store__holds cd_Store__holds ct_Store__holds), (fun_mk (st := s_Store__holds) l_Store__holds c_Store__holds k_Store__holds), ((fun_mk (st := s_Store__holds) l_Store__holds c_Store__holds k_Store__holds).binds (ps := ["self", "kind", "name", "revision"]) fun _ _ _ _ _ _ us hl => match us, hl with | [_, _, _, _], _ => rfl), ⟨m_Store__holds, i_Store__holds, k_Store__holds⟩, f_Store__change, (PySem.W.fnOf "_change" "Store._change" (defArgs s_Store__change) (defBody s_Store__change) (defScope s_Store__change) .none kV_Store__change dc_Store__change pm_Store__change an_Store__change cd_Store__change ct_Store__change), (fun_mk (st := s_Store__change) l_Store__change c_Store__change k_Store__change), ((fun_mk (st := s_Store__change) l_Store__change c_Store__change k_Store__change).binds (ps := ["self", "puts", "deletes"]) fun _ _ _ _ _ _ us hl => match us, hl with | [_, _, _], _ => rfl), ⟨m_Store__change, i_Store__change, k_Store__change⟩, f_Store_image, (PySem.W.fnOf "image" "Store.image" (defArgs s_Store_image) (defBody s_Store_image) (defScope s_Store_image) .none kV_Store_image dc_Store_image pm_Store_image an_Store_image cd_Store_image ct_Store_image), (fun_mk (st := s_Store_image) l_Store_image c_Store_image k_Store_image), ((fun_mk (st := s_Store_image) l_Store_image c_Store_image k_Store_image).binds (ps := ["self"]) fun _ _ _ _ _ _ us hl => match us, hl with | [_], _ => rfl), ⟨m_Store_image, i_Store_image, k_Store_image⟩, f_Store_from_image, (PySem.W.fnOf "from_image" "Store.from_image" (defArgs s_Store_from_image) (defBody s_Store_from_image) (defScope s_Store_from_image) .none kV_Store_from_image dc_Store_from_image pm_Store_from_image an_Store_from_image cd_Store_from_image ct_Store_from_image), (fun_mk (st := s_Store_from_image) l_Store_from_image c_Store_from_image k_Store_from_image), ((fun_mk (st := s_Store_from_image) l_Store_from_image c_Store_from_image k_Store_from_image).binds (ps := ["image"]) fun _ _ _ _ _ _ us hl => match us, hl with | [_], _ => rfl), sp_Store_from_image, ⟨sr_Store_from_image, sg_Store_from_image, sf_Store_from_image, ⟨_, sq_Store_from_image⟩⟩, f__law_is_integer, (PySem.W.fnOf "_law_is_integer" "_law_is_integer" (defArgs s__law_is_integer) (defBody s__law_is_integer) (defScope s__law_is_integer) .none kV__law_is_integer dc__law_is_integer pm__law_is_integer an__law_is_integer cd__law_is_integer ct__law_is_integer), (fun_mk (st := s__law_is_integer) l__law_is_integer c__law_is_integer k__law_is_integer), ((fun_mk (st := s__law_is_integer) l__law_is_integer c__law_is_integer k__law_is_integer).binds (ps := ["actual"]) fun _ _ _ _ _ _ us hl => match us, hl with | [_], _ => rfl), (PySem.W.mg_of X G g__law_is_integer), f__law_draws, (PySem.W.fnOf "_law_draws" "_law_draws" (defArgs s__law_draws) (defBody s__law_draws) (defScope s__law_draws) .none kV__law_draws dc__law_draws pm__law_draws an__law_draws cd__law_draws ct__law_draws), (fun_mk (st := s__law_draws) l__law_draws c__law_draws k__law_draws), ((fun_mk (st := s__law_draws) l__law_draws c__law_draws k__law_draws).binds (ps := ["script", "many"]) fun _ _ _ _ _ _ us hl => match us, hl with | [_, _], _ => rfl), (PySem.W.mg_of X G g__law_draws), f__law_name, (PySem.W.fnOf "_law_name" "_law_name" (defArgs s__law_name) (defBody s__law_name) (defScope s__law_name) .none kV__law_name dc__law_name pm__law_name an__law_name cd__law_name ct__law_name), (fun_mk (st := s__law_name) l__law_name c__law_name k__law_name), ((fun_mk (st := s__law_name) l__law_name c__law_name k__law_name).binds (ps := ["draws"]) fun _ _ _ _ _ _ us hl => match us, hl with | [_], _ => rfl), (PySem.W.mg_of X G g__law_name), f__law_text, (PySem.W.fnOf "_law_text" "_law_text" (defArgs s__law_text) (defBody s__law_text) (defScope s__law_text) .none kV__law_text dc__law_text pm__law_text an__law_text cd__law_text ct__law_text), (fun_mk (st := s__law_text) l__law_text c__law_text k__law_text), ((fun_mk (st := s__law_text) l__law_text c__law_text k__law_text).binds (ps := ["draws"]) fun _ _ _ _ _ _ us hl => match us, hl with | [_], _ => rfl), (PySem.W.mg_of X G g__law_text), f__law_zone, (PySem.W.fnOf "_law_zone" "_law_zone" (defArgs s__law_zone) (defBody s__law_zone) (defScope s__law_zone) .none kV__law_zone dc__law_zone pm__law_zone an__law_zone cd__law_zone ct__law_zone), (fun_mk (st := s__law_zone) l__law_zone c__law_zone k__law_zone), ((fun_mk (st := s__law_zone) l__law_zone c__law_zone k__law_zone).binds (ps := ["draws"]) fun _ _ _ _ _ _ us hl => match us, hl with | [_], _ => rfl), (PySem.W.mg_of X G g__law_zone), f__law_open, (PySem.W.fnOf "_law_open" "_law_open" (defArgs s__law_open) (defBody s__law_open) (defScope s__law_open) .none kV__law_open dc__law_open pm__law_open an__law_open cd__law_open ct__law_open), (fun_mk (st := s__law_open) l__law_open c__law_open k__law_open), ((fun_mk (st := s__law_open) l__law_open c__law_open k__law_open).binds (ps := ["draw"]) fun _ _ _ _ _ _ us hl => match us, hl with | [_], _ => rfl), (PySem.W.mg_of X G g__law_open), f__law_key, (PySem.W.fnOf "_law_key" "_law_key" (defArgs s__law_key) (defBody s__law_key) (defScope s__law_key) .none kV__law_key dc__law_key pm__law_key an__law_key cd__law_key ct__law_key), (fun_mk (st := s__law_key) l__law_key c__law_key k__law_key), ((fun_mk (st := s__law_key) l__law_key c__law_key k__law_key).binds (ps := ["draws"]) fun _ _ _ _ _ _ us hl => match us, hl with | [_], _ => rfl), (PySem.W.mg_of X G g__law_key), f__law_worth, (PySem.W.fnOf "_law_worth" "_law_worth" (defArgs s__law_worth) (defBody s__law_worth) (defScope s__law_worth) .none kV__law_worth dc__law_worth pm__law_worth an__law_worth cd__law_worth ct__law_worth), (fun_mk (st := s__law_worth) l__law_worth c__law_worth k__law_worth), ((fun_mk (st := s__law_worth) l__law_worth c__law_worth k__law_worth).binds (ps := ["kind", "draws"]) fun _ _ _ _ _ _ us hl => match us, hl with | [_, _], _ => rfl), (PySem.W.mg_of X G g__law_worth), f__law_find, (PySem.W.fnOf "_law_find" "_law_find" (defArgs s__law_find) (defBody s__law_find) (defScope s__law_find) .none kV__law_find dc__law_find pm__law_find an__law_find cd__law_find ct__law_find), (fun_mk (st := s__law_find) l__law_find c__law_find k__law_find), ((fun_mk (st := s__law_find) l__law_find c__law_find k__law_find).binds (ps := ["entries", "kind", "name"]) fun _ _ _ _ _ _ us hl => match us, hl with | [_, _, _], _ => rfl), (PySem.W.mg_of X G g__law_find), f__law_less, (PySem.W.fnOf "_law_less" "_law_less" (defArgs s__law_less) (defBody s__law_less) (defScope s__law_less) .none kV__law_less dc__law_less pm__law_less an__law_less cd__law_less ct__law_less), (fun_mk (st := s__law_less) l__law_less c__law_less k__law_less), ((fun_mk (st := s__law_less) l__law_less c__law_less k__law_less).binds (ps := ["one", "two"]) fun _ _ _ _ _ _ us hl => match us, hl with | [_, _], _ => rfl), (PySem.W.mg_of X G g__law_less), f__law_placed, (PySem.W.fnOf "_law_placed" "_law_placed" (defArgs s__law_placed) (defBody s__law_placed) (defScope s__law_placed) .none kV__law_placed dc__law_placed pm__law_placed an__law_placed cd__law_placed ct__law_placed), (fun_mk (st := s__law_placed) l__law_placed c__law_placed k__law_placed), ((fun_mk (st := s__law_placed) l__law_placed c__law_placed k__law_placed).binds (ps := ["entries", "entry"]) fun _ _ _ _ _ _ us hl => match us, hl with | [_, _], _ => rfl), (PySem.W.mg_of X G g__law_placed), f__law_failing, (PySem.W.fnOf "_law_failing" "_law_failing" (defArgs s__law_failing) (defBody s__law_failing) (defScope s__law_failing) .none kV__law_failing dc__law_failing pm__law_failing an__law_failing cd__law_failing ct__law_failing), (fun_mk (st := s__law_failing) l__law_failing c__law_failing k__law_failing), ((fun_mk (st := s__law_failing) l__law_failing c__law_failing k__law_failing).binds (ps := ["entries", "transaction"]) fun _ _ _ _ _ _ us hl => match us, hl with | [_, _], _ => rfl), (PySem.W.mg_of X G g__law_failing), f__law_done, (PySem.W.fnOf "_law_done" "_law_done" (defArgs s__law_done) (defBody s__law_done) (defScope s__law_done) .none kV__law_done dc__law_done pm__law_done an__law_done cd__law_done ct__law_done), (fun_mk (st := s__law_done) l__law_done c__law_done k__law_done), ((fun_mk (st := s__law_done) l__law_done c__law_done k__law_done).binds (ps := ["entries", "revision", "transaction"]) fun _ _ _ _ _ _ us hl => match us, hl with | [_, _, _], _ => rfl), (PySem.W.mg_of X G g__law_done), f__law_transaction, (PySem.W.fnOf "_law_transaction" "_law_transaction" (defArgs s__law_transaction) (defBody s__law_transaction) (defScope s__law_transaction) .none kV__law_transaction dc__law_transaction pm__law_transaction an__law_transaction cd__law_transaction ct__law_transaction), (fun_mk (st := s__law_transaction) l__law_transaction c__law_transaction k__law_transaction), ((fun_mk (st := s__law_transaction) l__law_transaction c__law_transaction k__law_transaction).binds (ps := ["entries", "draws"]) fun _ _ _ _ _ _ us hl => match us, hl with | [_, _], _ => rfl), (PySem.W.mg_of X G g__law_transaction), f__law_same, (PySem.W.fnOf "_law_same" "_law_same" (defArgs s__law_same) (defBody s__law_same) (defScope s__law_same) .none kV__law_same dc__law_same pm__law_same an__law_same cd__law_same ct__law_same), (fun_mk (st := s__law_same) l__law_same c__law_same k__law_same), ((fun_mk (st := s__law_same) l__law_same c__law_same k__law_same).binds (ps := ["actual", "expected"]) fun _ _ _ _ _ _ us hl => match us, hl with | [_, _], _ => rfl), (PySem.W.mg_of X G g__law_same), f__law_same_entries, (PySem.W.fnOf "_law_same_entries" "_law_same_entries" (defArgs s__law_same_entries) (defBody s__law_same_entries) (defScope s__law_same_entries) .none kV__law_same_entries dc__law_same_entries pm__law_same_entries an__law_same_entries cd__law_same_entries ct__law_same_entries), (fun_mk (st := s__law_same_entries) l__law_same_entries c__law_same_entries k__law_same_entries), ((fun_mk (st := s__law_same_entries) l__law_same_entries c__law_same_entries k__law_same_entries).binds (ps := ["actual", "entries"]) fun _ _ _ _ _ _ us hl => match us, hl with | [_, _], _ => rfl), (PySem.W.mg_of X G g__law_same_entries), f__law_kept, (PySem.W.fnOf "_law_kept" "_law_kept" (defArgs s__law_kept) (defBody s__law_kept) (defScope s__law_kept) .none kV__law_kept dc__law_kept pm__law_kept an__law_kept cd__law_kept ct__law_kept), (fun_mk (st := s__law_kept) l__law_kept c__law_kept k__law_kept), ((fun_mk (st := s__law_kept) l__law_kept c__law_kept k__law_kept).binds (ps := ["kept", "origin"]) fun _ _ _ _ _ _ us hl => match us, hl with | [_, _], _ => rfl), (PySem.W.mg_of X G g__law_kept), f__law_keep, (PySem.W.fnOf "_law_keep" "_law_keep" (defArgs s__law_keep) (defBody s__law_keep) (defScope s__law_keep) .none kV__law_keep dc__law_keep pm__law_keep an__law_keep cd__law_keep ct__law_keep), (fun_mk (st := s__law_keep) l__law_keep c__law_keep k__law_keep), ((fun_mk (st := s__law_keep) l__law_keep c__law_keep k__law_keep).binds (ps := ["kept", "entry"]) fun _ _ _ _ _ _ us hl => match us, hl with | [_, _], _ => rfl), (PySem.W.mg_of X G g__law_keep), f__law_expected, (PySem.W.fnOf "_law_expected" "_law_expected" (defArgs s__law_expected) (defBody s__law_expected) (defScope s__law_expected) .none kV__law_expected dc__law_expected pm__law_expected an__law_expected cd__law_expected ct__law_expected), (fun_mk (st := s__law_expected) l__law_expected c__law_expected k__law_expected), ((fun_mk (st := s__law_expected) l__law_expected c__law_expected k__law_expected).binds (ps := ["state", "command"]) fun _ _ _ _ _ _ us hl => match us, hl with | [_, _], _ => rfl), (PySem.W.mg_of X G g__law_expected), f__law_asks, (PySem.W.fnOf "_law_asks" "_law_asks" (defArgs s__law_asks) (defBody s__law_asks) (defScope s__law_asks) .none kV__law_asks dc__law_asks pm__law_asks an__law_asks cd__law_asks ct__law_asks), (fun_mk (st := s__law_asks) l__law_asks c__law_asks k__law_asks), ((fun_mk (st := s__law_asks) l__law_asks c__law_asks k__law_asks).binds (ps := ["sessions", "kept"]) fun _ _ _ _ _ _ us hl => match us, hl with | [_, _], _ => rfl), (PySem.W.mg_of X G g__law_asks), f_law, (PySem.W.fnOf "law" "law" (defArgs s_law) (defBody s_law) (defScope s_law) .none kV_law dc_law pm_law an_law cd_law ct_law), (fun_mk (st := s_law) l_law c_law k_law), ((fun_mk (st := s_law) l_law c_law k_law).binds (ps := ["script"]) fun _ _ _ _ _ _ us hl => match us, hl with | [_], _ => rfl), (PySem.W.mg_of X G g_law), ⟨pg_Sessions, hd_Sessions, po_Sessions, sa_Sessions⟩, (PySem.W.mg_of X G gc_Sessions), ⟨mk_Sessions, m_Sessions___init__, i_Sessions___init__, kc_Sessions⟩, na_Sessions__kept, ⟨pg_Store, hd_Store, po_Store, sa_Store⟩, (PySem.W.mg_of X G gc_Store), ⟨mk_Store, m_Store___init__, i_Store___init__, kc_Store⟩, na_Store_revision, na_Store_oldest, na_Store__table, na_Store__changes, t_SPACE, (PySem.W.mg_of X G c_SPACE), t_PERCENT, (PySem.W.mg_of X G c_PERCENT), t_TILDE, (PySem.W.mg_of X G c_TILDE), t_DIGITS, (PySem.W.mg_of X G c_DIGITS), ca_KINDS, (PySem.W.mg_of X G c_KINDS), (fun H => Or.inr ⟨_, cv_KINDS.toArray, cn_KINDS, q_KINDS, rfl, rfl, (by rw [List.size_toArray, ← (Vals.length v_KINDS)]; exact (by decide : 7 ≤ sizeLine)), (by simpa using v_KINDS)⟩), ca_STATES, (PySem.W.mg_of X G c_STATES), (fun H => Or.inr ⟨_, cv_STATES.toArray, cn_STATES, q_STATES, rfl, rfl, (by rw [List.size_toArray, ← (Vals.length v_STATES)]; exact (by decide : 4 ≤ sizeLine)), (by simpa using v_STATES)⟩), t_NAME_CHARACTERS, (PySem.W.mg_of X G c_NAME_CHARACTERS), t_MOST_NAME, (PySem.W.mg_of X G c_MOST_NAME), t_MOST_TEXT, (PySem.W.mg_of X G c_MOST_TEXT), t_MOST_COUNT, (PySem.W.mg_of X G c_MOST_COUNT), t_MOST_NUMBER, (PySem.W.mg_of X G c_MOST_NUMBER), t_MOST_MEMBERS, (PySem.W.mg_of X G c_MOST_MEMBERS), ca_VALUE_FORMS, (PySem.W.mg_of X G c_VALUE_FORMS), ce_VALUE_FORMS, cn_VALUE_FORMS, ⟨q_VALUE_FORMS, w_VALUE_FORMS, z_VALUE_FORMS⟩, j_VALUE_FORMS_beat, j_VALUE_FORMS_drain, j_VALUE_FORMS_node, j_VALUE_FORMS_note, j_VALUE_FORMS_rollout, j_VALUE_FORMS_service, j_VALUE_FORMS_task, (PySem.W.mg_none_of X G n_isinstance), (PySem.W.mg_none_of X G n_int), (PySem.W.mg_none_of X G n_bool), (PySem.W.mg_none_of X G n_len), (PySem.W.mg_none_of X G n_str), (PySem.W.mg_none_of X G n_all), (PySem.W.mg_none_of X G n_ord), (PySem.W.mg_none_of X G n_tuple), (PySem.W.mg_none_of X G n_list), (PySem.W.mg_none_of X G n_sorted), (PySem.W.mg_none_of X G n_range), (PySem.W.mg_none_of X G n_abs), (PySem.W.mg_none_of X G n_max)⟩
  obtain ⟨a0, o0, fd0, c0, P0, z1, z2, z3, z4, z5, z6⟩ := hnm
  rw [PySem.W.mg_of X G g__sorted_by_key] at z1
  cases z1
  rw [X _ _ l__sorted_by_key] at z2
  cases z2
  cases z3
  have z4' := hc__sorted_by_key.symm.trans z4
  cases z4'
  have z7 := z6
  obtain ⟨⟨o1, us, y1, y2, y3, y4⟩, y5⟩ := z6
  rw [X _ _ lc__sorted_by_key] at y1
  cases y1
  cases y3
  rw [lv__sorted_by_key] at y4
  cases y4
  exact ⟨T.d_law, [(cc__sorted_by_key, pp__sorted_by_key)], sp_law K pp__sorted_by_key, fun p hp => (by rw [List.mem_singleton.mp hp]; exact y5), fun p hp => (by rw [List.mem_singleton.mp hp]; exact np__sorted_by_key), fun p hp => (by rw [List.mem_singleton.mp hp]; exact PySem.W.CodeHd.of z5 z7), fun s v => .of_eq rfl,
    fun H a ns hl _ hT hS => ⟨a, ns, rfl, hS, hl, LamX.TabS.nil (hT _ (List.mem_cons_self ..)), fun _ => rfl⟩, fun base _ _ hB => ok_law T (hB _ (List.mem_cons_self ..))⟩
end My
open PySem PySem.W PyProof.Rows
set_option maxHeartbeats 0 in
theorem PySem.Challenge.cw_majordomo_k35_commands_run_once_holds : PySem.Challenge.rw_majordomo_k35_commands_run_once.Holds := by
  w_on; o_law; k_head; (case hw => w_witness2)
  k_fill
  refine My.walk_ofTab (l := PySem.Challenge.rw_majordomo_k35_commands_run_once) (n := 63) (k := 15) (x := "script") (CX := (fun _ => L2.CX0)) "_sorted_by_key" rfl (by decide) rfl ⟨rfl, by decide, by decide⟩ ?R (fun w h Y => PySem.W.km_in_of Y) ?F (fun _ _ _ _ _ h => h)
  case R => first | rfl | decide +kernel
  case F =>
    intro w mg fa h Y KX G hmg tab
    refine' My.all_mk KX G hmg tab ?g_MajordomoError ?x_MajordomoError ?k_MajordomoError ?s_MajordomoError ?t_MajordomoError ?g_StoreError ?x_StoreError ?k_StoreError ?s_StoreError ?t_StoreError ?g_BadTransaction ?x_BadTransaction ?k_BadTransaction ?s_BadTransaction ?t_BadTransaction ?gc_Sessions ?m_Sessions___init__ ?i_Sessions___init__ ?l_Sessions___init__ ?c_Sessions___init__ ?k_Sessions___init__ ?m_Sessions_run ?i_Sessions_run ?l_Sessions_run ?c_Sessions_run ?k_Sessions_run ?m_Sessions_answer ?i_Sessions_answer ?l_Sessions_answer ?c_Sessions_answer ?k_Sessions_answer ?m_Sessions_last ?i_Sessions_last ?l_Sessions_last ?c_Sessions_last ?k_Sessions_last ?m_Sessions_image ?i_Sessions_image ?l_Sessions_image ?c_Sessions_image ?k_Sessions_image ?sr_Sessions_from_image ?sg_Sessions_from_image ?sf_Sessions_from_image ?sq_Sessions_from_image ?l_Sessions_from_image ?c_Sessions_from_image ?k_Sessions_from_image ?g_has_plain_characters ?l_has_plain_characters ?c_has_plain_characters ?k_has_plain_characters ?g_is_integer_within ?l_is_integer_within ?c_is_integer_within ?k_is_integer_within ?g_is_plain_name ?l_is_plain_name ?c_is_plain_name ?k_is_plain_name ?g_is_slot_name ?l_is_slot_name ?c_is_slot_name ?k_is_slot_name ?g_is_text ?l_is_text ?c_is_text ?k_is_text ?g_is_count ?l_is_count ?c_is_count ?k_is_count ?g_is_zone ?l_is_zone ?c_is_zone ?k_is_zone ?g_is_key ?l_is_key ?c_is_key ?k_is_key ?g__is_beat ?l__is_beat ?c__is_beat ?k__is_beat ?g__is_drain ?l__is_drain ?c__is_drain ?k__is_drain ?g__is_node ?l__is_node ?c__is_node ?k__is_node ?g__is_note ?l__is_note ?c__is_note ?k__is_note ?g__is_rollout ?l__is_rollout ?c__is_rollout ?k__is_rollout ?g__are_open_numbers ?l__are_open_numbers ?c__are_open_numbers ?k__are_open_numbers ?g__is_service ?l__is_service ?c__is_service ?k__is_service ?g__is_task ?l__is_task ?c__is_task ?k__is_task ?g_is_object ?l_is_object ?c_is_object ?k_is_object ?g__is_tuple_of ?l__is_tuple_of ?c__is_tuple_of ?k__is_tuple_of ?g__is_condition ?l__is_condition ?c__is_condition ?k__is_condition ?g__is_put ?l__is_put ?c__is_put ?k__is_put ?g__is_delete ?l__is_delete ?c__is_delete ?k__is_delete ?g__are_distinct ?l__are_distinct ?c__are_distinct ?k__are_distinct ?g_check_transaction ?l_check_transaction ?c_check_transaction ?k_check_transaction ?g__sorted_by_key ?l__sorted_by_key ?c__sorted_by_key ?k__sorted_by_key ?hc__sorted_by_key ?lc__sorted_by_key ?lv__sorted_by_key ?np__sorted_by_key ?gc_Store ?m_Store___init__ ?i_Store___init__ ?l_Store___init__ ?c_Store___init__ ?k_Store___init__ ?m_Store_entry ?i_Store_entry ?l_Store_entry ?c_Store_entry ?k_Store_entry ?m_Store_entries ?i_Store_entries ?l_Store_entries ?c_Store_entries ?k_Store_entries ?m_Store_apply ?i_Store_apply ?l_Store_apply ?c_Store_apply ?k_Store_apply ?m_Store__holds ?i_Store__holds ?l_Store__holds ?c_Store__holds ?k_Store__holds ?m_Store__change ?i_Store__change ?l_Store__change ?c_Store__change ?k_Store__change ?m_Store_image ?i_Store_image ?l_Store_image ?c_Store_image ?k_Store_image ?sr_Store_from_image ?sg_Store_from_image ?sf_Store_from_image ?sq_Store_from_image ?l_Store_from_image ?c_Store_from_image ?k_Store_from_image ?g__law_is_integer ?l__law_is_integer ?c__law_is_integer ?k__law_is_integer ?g__law_draws ?l__law_draws ?c__law_draws ?k__law_draws ?g__law_name ?l__law_name ?c__law_name ?k__law_name ?g__law_text ?l__law_text ?c__law_text ?k__law_text ?g__law_zone ?l__law_zone ?c__law_zone ?k__law_zone ?g__law_open ?l__law_open ?c__law_open ?k__law_open ?g__law_key ?l__law_key ?c__law_key ?k__law_key ?g__law_worth ?l__law_worth ?c__law_worth ?k__law_worth ?g__law_find ?l__law_find ?c__law_find ?k__law_find ?g__law_less ?l__law_less ?c__law_less ?k__law_less ?g__law_placed ?l__law_placed ?c__law_placed ?k__law_placed ?g__law_failing ?l__law_failing ?c__law_failing ?k__law_failing ?g__law_done ?l__law_done ?c__law_done ?k__law_done ?g__law_transaction ?l__law_transaction ?c__law_transaction ?k__law_transaction ?g__law_same ?l__law_same ?c__law_same ?k__law_same ?g__law_same_entries ?l__law_same_entries ?c__law_same_entries ?k__law_same_entries ?g__law_kept ?l__law_kept ?c__law_kept ?k__law_kept ?g__law_keep ?l__law_keep ?c__law_keep ?k__law_keep ?g__law_expected ?l__law_expected ?c__law_expected ?k__law_expected ?g__law_asks ?l__law_asks ?c__law_asks ?k__law_asks ?g_law ?l_law ?c_law ?k_law ?pg_Sessions ?hd_Sessions ?po_Sessions ?sa_Sessions ?mk_Sessions ?kc_Sessions ?na_Sessions__kept ?pg_Store ?hd_Store ?po_Store ?sa_Store ?mk_Store ?kc_Store ?na_Store_revision ?na_Store_oldest ?na_Store__table ?na_Store__changes ?c_SPACE ?c_PERCENT ?c_TILDE ?c_DIGITS ?c_KINDS ?q_KINDS ?v_KINDS ?c_STATES ?q_STATES ?v_STATES ?c_NAME_CHARACTERS ?c_MOST_NAME ?c_MOST_TEXT ?c_MOST_COUNT ?c_MOST_NUMBER ?c_MOST_MEMBERS ?c_VALUE_FORMS ?q_VALUE_FORMS ?w_VALUE_FORMS ?z_VALUE_FORMS ?j_VALUE_FORMS_beat ?j_VALUE_FORMS_drain ?j_VALUE_FORMS_node ?j_VALUE_FORMS_note ?j_VALUE_FORMS_rollout ?j_VALUE_FORMS_service ?j_VALUE_FORMS_task ?n_isinstance ?n_int ?n_bool ?n_len ?n_str ?n_all ?n_ord ?n_tuple ?n_list ?n_sorted ?n_range ?n_abs ?n_max
    (case g_MajordomoError => k_is); (case x_MajordomoError => k_exc); (case k_MajordomoError => k_is); (case s_MajordomoError => k_is); (case t_MajordomoError => k_is); (case g_StoreError => k_is); (case x_StoreError => k_exc); (case k_StoreError => k_is); (case s_StoreError => k_is); (case t_StoreError => k_is); (case g_BadTransaction => k_is); (case x_BadTransaction => k_exc); (case k_BadTransaction => k_is); (case s_BadTransaction => k_is); (case t_BadTransaction => k_is); (case gc_Sessions => k_is); (case m_Sessions___init__ => k_is); (case i_Sessions___init__ => k_is); (case l_Sessions___init__ => k_is); (case c_Sessions___init__ => k_is); (case k_Sessions___init__ => k_is); (case m_Sessions_run => k_is); (case i_Sessions_run => k_is); (case l_Sessions_run => k_is); (case c_Sessions_run => k_is); (case k_Sessions_run => k_is); (case m_Sessions_answer => k_is); (case i_Sessions_answer => k_is); (case l_Sessions_answer => k_is); (case c_Sessions_answer => k_is); (case k_Sessions_answer => k_is); (case m_Sessions_last => k_is); (case i_Sessions_last => k_is); (case l_Sessions_last => k_is); (case c_Sessions_last => k_is); (case k_Sessions_last => k_is); (case m_Sessions_image => k_is); (case i_Sessions_image => k_is); (case l_Sessions_image => k_is); (case c_Sessions_image => k_is); (case k_Sessions_image => k_is); (case sr_Sessions_from_image => k_is); (case sg_Sessions_from_image => k_is); (case sf_Sessions_from_image => k_is); (case sq_Sessions_from_image => k_is); (case l_Sessions_from_image => k_is); (case c_Sessions_from_image => k_is); (case k_Sessions_from_image => k_is); (case g_has_plain_characters => k_is); (case l_has_plain_characters => k_is); (case c_has_plain_characters => k_is); (case k_has_plain_characters => k_is); (case g_is_integer_within => k_is); (case l_is_integer_within => k_is); (case c_is_integer_within => k_is); (case k_is_integer_within => k_is); (case g_is_plain_name => k_is); (case l_is_plain_name => k_is); (case c_is_plain_name => k_is); (case k_is_plain_name => k_is); (case g_is_slot_name => k_is); (case l_is_slot_name => k_is); (case c_is_slot_name => k_is); (case k_is_slot_name => k_is); (case g_is_text => k_is); (case l_is_text => k_is); (case c_is_text => k_is); (case k_is_text => k_is); (case g_is_count => k_is); (case l_is_count => k_is); (case c_is_count => k_is); (case k_is_count => k_is); (case g_is_zone => k_is); (case l_is_zone => k_is); (case c_is_zone => k_is); (case k_is_zone => k_is); (case g_is_key => k_is); (case l_is_key => k_is); (case c_is_key => k_is); (case k_is_key => k_is); (case g__is_beat => k_is); (case l__is_beat => k_is); (case c__is_beat => k_is); (case k__is_beat => k_is); (case g__is_drain => k_is); (case l__is_drain => k_is); (case c__is_drain => k_is); (case k__is_drain => k_is); (case g__is_node => k_is); (case l__is_node => k_is); (case c__is_node => k_is); (case k__is_node => k_is); (case g__is_note => k_is); (case l__is_note => k_is); (case c__is_note => k_is); (case k__is_note => k_is); (case g__is_rollout => k_is); (case l__is_rollout => k_is); (case c__is_rollout => k_is); (case k__is_rollout => k_is); (case g__are_open_numbers => k_is); (case l__are_open_numbers => k_is); (case c__are_open_numbers => k_is); (case k__are_open_numbers => k_is); (case g__is_service => k_is); (case l__is_service => k_is); (case c__is_service => k_is); (case k__is_service => k_is); (case g__is_task => k_is); (case l__is_task => k_is); (case c__is_task => k_is); (case k__is_task => k_is); (case g_is_object => k_is); (case l_is_object => k_is); (case c_is_object => k_is); (case k_is_object => k_is); (case g__is_tuple_of => k_is); (case l__is_tuple_of => k_is); (case c__is_tuple_of => k_is); (case k__is_tuple_of => k_is); (case g__is_condition => k_is); (case l__is_condition => k_is); (case c__is_condition => k_is); (case k__is_condition => k_is); (case g__is_put => k_is); (case l__is_put => k_is); (case c__is_put => k_is); (case k__is_put => k_is); (case g__is_delete => k_is); (case l__is_delete => k_is); (case c__is_delete => k_is); (case k__is_delete => k_is); (case g__are_distinct => k_is); (case l__are_distinct => k_is); (case c__are_distinct => k_is); (case k__are_distinct => k_is); (case g_check_transaction => k_is); (case l_check_transaction => k_is); (case c_check_transaction => k_is); (case k_check_transaction => k_is); (case g__sorted_by_key => k_is); (case l__sorted_by_key => k_is); (case c__sorted_by_key => k_is); (case k__sorted_by_key => k_is); (case hc__sorted_by_key => first | k_is | rfl | decide +kernel); (case lc__sorted_by_key => first | k_is | rfl | decide +kernel); (case lv__sorted_by_key => first | k_is | rfl | decide +kernel); (case np__sorted_by_key => first | k_is | rfl | decide +kernel); (case gc_Store => k_is); (case m_Store___init__ => k_is); (case i_Store___init__ => k_is); (case l_Store___init__ => k_is); (case c_Store___init__ => k_is); (case k_Store___init__ => k_is); (case m_Store_entry => k_is); (case i_Store_entry => k_is); (case l_Store_entry => k_is); (case c_Store_entry => k_is); (case k_Store_entry => k_is); (case m_Store_entries => k_is); (case i_Store_entries => k_is); (case l_Store_entries => k_is); (case c_Store_entries => k_is); (case k_Store_entries => k_is); (case m_Store_apply => k_is); (case i_Store_apply => k_is); (case l_Store_apply => k_is); (case c_Store_apply => k_is); (case k_Store_apply => k_is); (case m_Store__holds => k_is); (case i_Store__holds => k_is); (case l_Store__holds => k_is); (case c_Store__holds => k_is); (case k_Store__holds => k_is); (case m_Store__change => k_is); (case i_Store__change => k_is); (case l_Store__change => k_is); (case c_Store__change => k_is); (case k_Store__change => k_is); (case m_Store_image => k_is); (case i_Store_image => k_is); (case l_Store_image => k_is); (case c_Store_image => k_is); (case k_Store_image => k_is); (case sr_Store_from_image => k_is); (case sg_Store_from_image => k_is); (case sf_Store_from_image => k_is); (case sq_Store_from_image => k_is); (case l_Store_from_image => k_is); (case c_Store_from_image => k_is); (case k_Store_from_image => k_is); (case g__law_is_integer => k_is); (case l__law_is_integer => k_is); (case c__law_is_integer => k_is); (case k__law_is_integer => k_is); (case g__law_draws => k_is); (case l__law_draws => k_is); (case c__law_draws => k_is); (case k__law_draws => k_is); (case g__law_name => k_is); (case l__law_name => k_is); (case c__law_name => k_is); (case k__law_name => k_is); (case g__law_text => k_is); (case l__law_text => k_is); (case c__law_text => k_is); (case k__law_text => k_is); (case g__law_zone => k_is); (case l__law_zone => k_is); (case c__law_zone => k_is); (case k__law_zone => k_is); (case g__law_open => k_is); (case l__law_open => k_is); (case c__law_open => k_is); (case k__law_open => k_is); (case g__law_key => k_is); (case l__law_key => k_is); (case c__law_key => k_is); (case k__law_key => k_is); (case g__law_worth => k_is); (case l__law_worth => k_is); (case c__law_worth => k_is); (case k__law_worth => k_is); (case g__law_find => k_is); (case l__law_find => k_is); (case c__law_find => k_is); (case k__law_find => k_is); (case g__law_less => k_is); (case l__law_less => k_is); (case c__law_less => k_is); (case k__law_less => k_is); (case g__law_placed => k_is); (case l__law_placed => k_is); (case c__law_placed => k_is); (case k__law_placed => k_is); (case g__law_failing => k_is); (case l__law_failing => k_is); (case c__law_failing => k_is); (case k__law_failing => k_is); (case g__law_done => k_is); (case l__law_done => k_is); (case c__law_done => k_is); (case k__law_done => k_is); (case g__law_transaction => k_is); (case l__law_transaction => k_is); (case c__law_transaction => k_is); (case k__law_transaction => k_is); (case g__law_same => k_is); (case l__law_same => k_is); (case c__law_same => k_is); (case k__law_same => k_is); (case g__law_same_entries => k_is); (case l__law_same_entries => k_is); (case c__law_same_entries => k_is); (case k__law_same_entries => k_is); (case g__law_kept => k_is); (case l__law_kept => k_is); (case c__law_kept => k_is); (case k__law_kept => k_is); (case g__law_keep => k_is); (case l__law_keep => k_is); (case c__law_keep => k_is); (case k__law_keep => k_is); (case g__law_expected => k_is); (case l__law_expected => k_is); (case c__law_expected => k_is); (case k__law_expected => k_is); (case g__law_asks => k_is); (case l__law_asks => k_is); (case c__law_asks => k_is); (case k__law_asks => k_is); (case g_law => k_is); (case l_law => k_is); (case c_law => k_is); (case k_law => k_is); (case pg_Sessions => k_is); (case hd_Sessions => k_is); (case po_Sessions => k_is); (case sa_Sessions => k_is); (case mk_Sessions => k_is); (case kc_Sessions => k_is); (case na_Sessions__kept => k_is); (case pg_Store => k_is); (case hd_Store => k_is); (case po_Store => k_is); (case sa_Store => k_is); (case mk_Store => k_is); (case kc_Store => k_is); (case na_Store_revision => k_is); (case na_Store_oldest => k_is); (case na_Store__table => k_is); (case na_Store__changes => k_is); (case c_SPACE => k_is); (case c_PERCENT => k_is); (case c_TILDE => k_is); (case c_DIGITS => k_is); (case c_KINDS => k_is); (case q_KINDS => k_is); (case v_KINDS => (repeat (first | exact .nil | refine .cons ⟨_, rfl⟩ ?_ | refine .cons rfl ?_))); (case c_STATES => k_is); (case q_STATES => k_is); (case v_STATES => (repeat (first | exact .nil | refine .cons ⟨_, rfl⟩ ?_ | refine .cons rfl ?_))); (case c_NAME_CHARACTERS => k_is); (case c_MOST_NAME => k_is); (case c_MOST_TEXT => k_is); (case c_MOST_COUNT => k_is); (case c_MOST_NUMBER => k_is); (case c_MOST_MEMBERS => k_is); (case c_VALUE_FORMS => k_is); (case q_VALUE_FORMS => k_is); (case w_VALUE_FORMS => (repeat (first | exact True.intro | refine ⟨⟨_, _, rfl, rfl⟩, ?_⟩))); (case z_VALUE_FORMS => (first | k_is | rfl | decide)); (case j_VALUE_FORMS_beat => k_is); (case j_VALUE_FORMS_drain => k_is); (case j_VALUE_FORMS_node => k_is); (case j_VALUE_FORMS_note => k_is); (case j_VALUE_FORMS_rollout => k_is); (case j_VALUE_FORMS_service => k_is); (case j_VALUE_FORMS_task => k_is); (case n_isinstance => k_is); (case n_int => k_is); (case n_bool => k_is); (case n_len => k_is); (case n_str => k_is); (case n_all => k_is); (case n_ord => k_is); (case n_tuple => k_is); (case n_list => k_is); (case n_sorted => k_is); (case n_range => k_is); (case n_abs => k_is); (case n_max => k_is)

