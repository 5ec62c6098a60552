import PyProof.Rows.All
import Wide.All
import OpenK.AllK
import Wide.FinOn
import HandS.ForMost
import HandS.IsInst
import HandS.EndBits
import HandS.Wide
import HandS.WideBits
import HandS.TupAny
import HandS.Codes
import HandS.Defaults
import HandS.ForExc
import HandS.TryMany
import HandS.ExcIs
import HandS.TryElse
import HandS.DictComp
import HandS.Walk
import HandS.Text
import HandS.TupLe
import PyProof.TupleIter
import PyProof.StrLoop
import HandS.Hot
import HandS.Iter
import HandS.Words
import HandS.HotCalls
import HandS.ExcCtx
import HandS.TupMul
import PySem.Challenge.RW_majordomo_k06_things_that_are_no_values
set_option Elab.async false
set_option linter.all false
set_option maxRecDepth 100000
set_option maxHeartbeats 4000000

namespace My
open PySem PySem.Spec PyProof.Rows L2
/-! own words: tests, heaps, items -/
theorem ifd {p A B : Prop} [Decidable p] (h1 : p → A) (h2 : ¬ p → B) : if decide p = true then A else B := by
  by_cases h : p
  · rw [decide_eq_true h]; exact (if_pos rfl).mpr (h1 h)
  · rw [decide_eq_false h]; exact (if_neg Bool.false_ne_true).mpr (h2 h)
theorem ifn {p A B : Prop} [Decidable p] (h1 : ¬ p → A) (h2 : p → B) : if (!decide p) = true then A else B := by
  by_cases h : p
  · rw [decide_eq_true h]; exact (if_neg Bool.false_ne_true).mpr (h2 h)
  · rw [decide_eq_false h]; exact (if_pos rfl).mpr (h1 h)
theorem ift {p A B : Prop} [Decidable p] (h : p) (h1 : A) : if decide p = true then A else B := by
  rw [decide_eq_true h]; exact (if_pos rfl).mpr h1
theorem iff0 {p A B : Prop} [Decidable p] (h : ¬ p) (h1 : B) : if decide p = true then A else B := by
  rw [decide_eq_false h]; exact (if_neg Bool.false_ne_true).mpr h1
theorem ifnt {p A B : Prop} [Decidable p] (h : p) (h1 : B) : if (!decide p) = true then A else B := by
  rw [decide_eq_true h]; exact (if_neg Bool.false_ne_true).mpr h1
theorem ifbt {b : Bool} {A B : Prop} (h : b = true) (h1 : A) : if b = true then A else B := (if_pos h).mpr h1
theorem ifbf {b : Bool} {A B : Prop} (h : b = false) (h1 : B) : if b = true then A else B := by rw [h]; exact h1
theorem ifb2 {b : Bool} {A B : Prop} (h1 : b = true → A) (h2 : b = false → B) : if b = true then A else B := by
  cases b with
  | true => exact h1 rfl
  | false => exact h2 rfl
theorem same_upd {H : Hp} {p : Addr} {o : HO} (h : H p = none) : Same H (upd H p o) := fun b x e => by
  rw [upd_ne (ne_of_none e h)]
  exact e
theorem same_put {H H' : Hp} {p : Addr} {o : HO} (e : Same H H') (h : H p = none) : Same H (upd H' p o) := fun b x q => by
  rw [upd_ne (ne_of_none q h)]
  exact e b x q
theorem sqt_same {K : PySem.W.Frag} {H H' : Hp} {a : Addr} {xs : List V} (e : Same H H') (h : SqT K H a xs) : SqT K H' a xs := by
  rcases h with (h | ⟨o, h⟩) | h
  · exact .inl (.inl (e _ _ h))
  · exact .inl (.inr ⟨o, e _ _ h⟩)
  · exact .inr h
theorem sql {K : PySem.W.Frag} {H : Hp} {a : Addr} {xs : List V} (h : H a = some (.lst xs)) : SqL K H a xs := .inl (.inl h)
theorem sqt {K : PySem.W.Frag} {H : Hp} {a : Addr} {xs : List V} (h : H a = some (.tup xs)) : SqT K H a xs := .inl (.inl h)
theorem sz {n : Nat} (h : n ≤ 100000) : n ≤ sizeLine := Nat.le_trans h (by decide)
theorem szl {n : Nat} (h : n ≤ 100000) : n < sizeLine := Nat.lt_of_le_of_lt h (by decide)
theorem map_at {α : Type} {f : α → V} {xs : List α} {i : Nat} {y : V} (h : (xs.map f)[i]? = some y) : ∃ x, xs[i]? = some x ∧ y = f x := by
  rw [List.getElem?_map] at h
  cases e : xs[i]? with
  | none => rw [e] at h; cases h
  | some x => rw [e] at h; exact ⟨x, rfl, (Option.some.inj h).symm⟩
theorem at_map {α : Type} {f : α → V} {xs : List α} {i : Nat} {x : α} (h : xs[i]? = some x) : atI (xs.map f) (i : Int) = some (f x) := atI_nat (by rw [List.getElem?_map, h]; rfl)
theorem take_more {α : Type} {l : List α} {i : Nat} {x : α} (h : l[i]? = some x) : l.take (i + 1) = l.take i ++ [x] := by
  rw [List.take_add_one, h]; rfl
/-! deep data stands as long as what was tracked stands -/
mutual
theorem dp_same {K : PySem.W.Frag} {H H' : Hp} (e : Same H H') : ∀ (d : PyData) {v : V}, Dp K H v d → Dp K H' v d
  | _, _, .non => .non
  | _, _, .bl b => .bl b
  | _, _, .int i => .int i
  | _, _, .str x => .str x
  | .list ds, _, .lst h a => .lst (e.seq h) (dpa_same e ds a)
  | .tuple ds, _, .tup h a => .tup (sqt_same e h) (dpa_same e ds a)
theorem dpa_same {K : PySem.W.Frag} {H H' : Hp} (e : Same H H') : ∀ (ds : List PyData) {vs : List V}, DpAll K H vs ds → DpAll K H' vs ds
  | [], _, .nil => .nil
  | d :: ds, _, .cons h a => .cons (dp_same e d h) (dpa_same e ds a)
end
theorem dpa_len {K : PySem.W.Frag} {H : Hp} : ∀ {vs : List V} {ds : List PyData}, DpAll K H vs ds → vs.length = ds.length
  | _, _, .nil => rfl
  | _, _, .cons _ a => by rw [List.length_cons, List.length_cons, dpa_len a]
theorem dpa_at {K : PySem.W.Frag} {H : Hp} : ∀ {vs : List V} {ds : List PyData} {i : Nat} {v : V}, DpAll K H vs ds → vs[i]? = some v → ∃ d, ds[i]? = some d ∧ Dp K H v d
  | _, _, _, _, .nil, h => by simp at h
  | _, _, 0, _, .cons h _, e => ⟨_, rfl, by have := Option.some.inj e; subst this; exact h⟩
  | _, _, i + 1, _, .cons _ a, e => dpa_at (i := i) a (by simpa using e)
theorem dpa_app {K : PySem.W.Frag} {H : Hp} : ∀ {vs ws : List V} {ds es : List PyData}, DpAll K H vs ds → DpAll K H ws es → DpAll K H (vs ++ ws) (ds ++ es)
  | _, _, _, _, .nil, b => b
  | _, _, _, _, .cons h a, b => .cons h (dpa_app a b)
theorem eqv_self {d : PyData} (h : SeqAt.shaped d = true) : PyData.eqv d d = true := SeqAt.eqv_refl d (SeqAt.canLay_of_shaped h)
/-! data that may be compared -/
theorem layAll : ∀ {ds : List PyData}, (∀ d ∈ ds, d.canLay0 = true) → PyData.canLayAll0 ds = true
  | [], _ => rfl
  | d :: ds, h => by
    rw [PyData.canLayAll0, h d List.mem_cons_self, layAll fun e he => h e (List.mem_cons_of_mem _ he)]; rfl
theorem depAll {n : Nat} : ∀ {ds : List PyData}, (∀ d ∈ ds, d.depth ≤ n) → PyData.depthAll ds ≤ n
  | [], _ => Nat.zero_le _
  | d :: ds, h => by
    have h1 := h d List.mem_cons_self
    have h2 := depAll (ds := ds) fun e he => h e (List.mem_cons_of_mem _ he)
    simp only [PyData.depthAll]
    omega
/-- plain data of at most this depth -/
def Flat (n : Nat) (d : PyData) : Prop := d.canLay0 = true ∧ d.depth ≤ n
theorem flat_list {n : Nat} {ds : List PyData} (h : ∀ d ∈ ds, Flat n d) : Flat (n + 1) (.list ds) :=
  ⟨by rw [PyData.canLay0]; exact layAll fun d hd => (h d hd).1, by have := depAll (n := n) fun d hd => (h d hd).2; simp only [PyData.depth]; omega⟩
theorem flat_tup {n : Nat} {ds : List PyData} (h : ∀ d ∈ ds, Flat n d) : Flat (n + 1) (.tuple ds) :=
  ⟨by rw [PyData.canLay0]; exact layAll fun d hd => (h d hd).1, by have := depAll (n := n) fun d hd => (h d hd).2; simp only [PyData.depth]; omega⟩
theorem flat_int (n : Nat) (i : Int) : Flat n (.int i) := ⟨rfl, by simp [PyData.depth]⟩
theorem flat_str (n : Nat) (x : Str) (h : (PyData.str x).canLay0 = true := by decide +kernel) : Flat n (.str x) := ⟨h, by simp [PyData.depth]⟩
theorem flat_bl (n : Nat) (b : Bool) : Flat n (.bool b) := ⟨rfl, by simp [PyData.depth]⟩
theorem flat_non (n : Nat) : Flat n .none := ⟨rfl, by simp [PyData.depth]⟩
theorem Flat.mono {n m : Nat} {d : PyData} (h : Flat n d) (hm : n ≤ m) : Flat m d := ⟨h.1, Nat.le_trans h.2 hm⟩
theorem Flat.sh {n : Nat} {d : PyData} (h : Flat n d) (hn : n ≤ 64) : SeqAt.shaped d = true := by
  show (d.canLay0 && decide (d.depth ≤ 64)) = true
  rw [Bool.and_eq_true]
  exact ⟨h.1, decide_eq_true (Nat.le_trans h.2 hn)⟩
theorem tyx_t {K : PySem.W.Frag} {H : Hp} {a : Addr} {xs : List V} (h : SqT K H a xs) : TyX K H (.ref a) (.type "tuple") := by
  rcases h with (h | ⟨o, h⟩) | ⟨o, its, n, h, hc, _⟩
  · exact .base (.tup h)
  · exact .fTuple h
  · exact .kTuple h hc
theorem tyx_l {K : PySem.W.Frag} {H : Hp} {a : Addr} {xs : List V} (h : SqL K H a xs) : TyX K H (.ref a) (.type "list") := by
  rcases h with (h | ⟨o, h⟩) | ⟨o, its, n, h, hc, _⟩
  · exact .base (.lst h)
  · exact .base (.frz h)
  · exact .kList h hc
theorem same_both {G H : Hp} {t : Addr} {x : HO} (e : Same G H) : Same (upd G t x) (upd H t x) := fun b o h => by
  by_cases hb : b = t
  · subst hb; rw [upd_same] at h ⊢; exact h
  · rw [upd_ne hb] at h ⊢; exact e b o h
theorem set_self {α : Type} : ∀ {l : List α} {i : Nat} {x : α}, l[i]? = some x → l.set i x = l
  | [], i, x, h => by simp at h
  | a :: l, 0, x, h => by
    have e : a = x := Option.some.inj h
    subst e
    rfl
  | a :: l, i + 1, x, h => by
    show a :: l.set i x = a :: l
    rw [set_self (by simpa using h)]
theorem ixn {n j : Nat} {i : Int} (hi : i = (j : Int)) (hj : j < n) : ixN n i = some j := by
  unfold ixN
  rw [if_pos (by omega), if_pos (by omega)]
  congr 1
  omega
/-! shifts and masks in place -/
section
variable {X : Cx}
theorem ip_shr : PIp X .RShift (fun x y H Q => ∃ (i : Int) (k : Nat), x = .int i ∧ y = .int (k : Int) ∧ Q (.int (i / 2 ^ k)) H) := by
  intro pins s σ H x y v u Q I r1 r2 h
  obtain ⟨i, k, e1, e2, q⟩ := h
  subst e1; subst e2
  obtain ⟨t, rfl⟩ := r1
  obtain ⟨t', rfl⟩ := r2
  refine irshift_int (Int.natCast_nonneg k) ⟨.int _, H, I.tok _, ⟨_, rfl⟩, ?_⟩
  rw [Int.toNat_natCast, Int.fdiv_eq_ediv_of_nonneg _ (Int.le_of_lt (Int.pow_pos (by decide)))]
  exact q
theorem ip_or : PIp X .BitOr (fun x y H Q => ∃ (r a : Int) (k : Nat), x = .int r ∧ y = .int (a * 2 ^ k) ∧ (0 ≤ a ∧ 0 ≤ r ∧ r < 2 ^ k) ∧ Q (.int (r + a * 2 ^ k)) H) := by
  intro pins s σ H x y v u Q I r1 r2 h
  obtain ⟨r, a, k, e1, e2, ⟨h0, h1, h2⟩, q⟩ := h
  subst e1; subst e2
  obtain ⟨t, rfl⟩ := r1
  obtain ⟨t', rfl⟩ := r2
  refine ior_int ⟨.int _, H, I.tok _, ⟨_, rfl⟩, ?_⟩
  have e : Builtin.bitOr r (a * 2 ^ k) = r + a * 2 ^ k := by
    have hp : (0 : Int) ≤ a * 2 ^ k := Int.mul_nonneg h0 (Int.le_of_lt (Int.pow_pos (by decide)))
    rw [bitOr_nn h1 hp, Nat.or_comm, ← bitOr_nn hp h1, or_low h0 h1 h2, Int.add_comm]
  rw [e]
  exact q
end
theorem bits_small : ∀ n : Nat, n < 128 → Builtin.Int.intBits (n : Int) ≤ 8 := by decide +kernel
/-- isinstance(e, c) of the error that a suite holds, its class known by the reading -/
theorem call_isE1 {X : Cx} {a D : Addr} {oe : Obj} {cls : Value} {d : Option Addr} {pn : List (Addr × Obj)} (C : ExcC X.K D) (hz : Zc cls d oe) (hf : ∃ vs, oe.data = .fields vs) :
    CallR (X.suite a ((a, oe) :: pn)) (.builtin "isinstance") (fun xs H Q => cls = .ref D ∧ d = none ∧ rIsE X.K D a xs H Q) := fun pins s σ H xs us Q I r h => by
  obtain ⟨h1, h2, h⟩ := h
  subst h1
  subst h2
  exact call_isE C hz hf pins s σ H xs us Q I r h
/-! slices -/
theorem sIx_le {n d : Nat} {i : Nat} : HT.sIx n d (some (i : Int)) = min i n := HT.sIx_nat n d i
theorem cut0n (xs : List V) (j : Nat) : cutV xs none (some (j : Int)) = xs.take j := by
  unfold cutV
  rw [sIx_le, HT.sIx_none, List.drop_zero, Nat.sub_zero]
  exact (List.take_eq_take_min).symm
theorem cutnn (xs : List V) (i j : Nat) : cutV xs (some (i : Int)) (some (j : Int)) = (xs.drop i).take (j - i) := by
  unfold cutV
  rw [sIx_le, sIx_le]
  by_cases hi : i ≤ xs.length
  · rw [Nat.min_eq_left hi]
    by_cases hj : j ≤ xs.length
    · rw [Nat.min_eq_left hj]
    · rw [Nat.min_eq_right (by omega), List.take_of_length_le (by rw [List.length_drop]; omega), List.take_of_length_le (by rw [List.length_drop]; omega)]
  · have e : min i xs.length = xs.length := by omega
    rw [e, List.drop_of_length_le (Nat.le_refl _), List.drop_of_length_le (show xs.length ≤ i by omega), List.take_nil, List.take_nil]
theorem cut_ints (ns : List Int) {i j : Nat} {a b : Int} (ha : a = i) (hb : b = j) : cutV (ns.map V.int) (some a) (some b) = ((ns.drop i).take (j - i)).map V.int := by
  rw [ha, hb, cutnn, ← List.map_drop, ← List.map_take]
theorem rep_ints (ns : List Int) (k : Nat) : (List.replicate k (ns.map V.int)).flatten = (List.replicate k ns).flatten.map V.int := by
  rw [List.map_flatten, List.map_replicate]
/-- [e for x in a slice], e changes nothing -/
theorem lc_cut {K : PySem.W.Frag} {wi : TI} {te : TE} {s : Nat} {σ : L2.St} {H : Hp} {Q : VK} (xs : List V) (f : V → V)
    (hwi : ∀ R : It → Hp → Prop, (∀ p, H p = none → R (Itl K p) (upd H p (.lst xs))) → wi σ H R) (hlen : xs.length ≤ 90000)
    (hw : ∀ x, wipe ((wipe σ [s]).set s (some x)) [s] = wipe σ [s])
    (he : ∀ (i : Nat) (x : V) (G : Hp) (Q' : VK), xs[i]? = some x → Same H G → Q' (f x) G → te ((wipe σ [s]).set s (some x)) G Q')
    (k : ∀ D H', H D = none → Same H H' → H' D = some (.lst (xs.map f)) → Q (.ref D) H') : tLc wi (gName s) tYes te [s] σ H Q := by
  refine hwi _ fun p hp D hD => ?_
  have nD : D ≠ p := fun z => by rw [z, upd_same] at hD; cases hD
  have hD0 : H D = none := by rw [upd_ne nD] at hD; exact hD
  refine lc_list (K := K) (a := p) (xs := xs) (fun i H' => Same H H' ∧ H' p = some (.lst xs) ∧ H' D = some (.lst ((xs.take i).map f)))
    ⟨(same_upd hp).trans (same_upd hD), by rw [upd_ne nD.symm, upd_same], by rw [upd_same]; rfl⟩ (fun i H' _ h => sql h.2.1) (fun i x G hx hG => ?_) (fun G hG => ?_)
  · refine ⟨hw x, ?_⟩
    refine he i x G _ hx hG.1 ⟨_, hG.2.2, szl (by rw [List.length_map, List.length_take]; omega), same_put hG.1 hD0, by rw [upd_ne nD.symm]; exact hG.2.1, ?_⟩
    rw [upd_same, take_more hx, List.map_append]
    rfl
  · refine k D G hD0 hG.1 ?_
    rw [List.take_length] at hG
    exact hG.2.2
/-- lists of ints as data -/
theorem dpa_ints {K : PySem.W.Frag} {H : Hp} : ∀ ns : List Int, DpAll K H (ns.map V.int) (ns.map PyData.int)
  | [] => .nil
  | n :: ns => .cons (.int n) (dpa_ints ns)
theorem dp_ints {K : PySem.W.Frag} {H : Hp} {a : Addr} {ns : List Int} (h : SqL K H a (ns.map V.int)) : Dp K H (.ref a) (.list (ns.map PyData.int)) := .lst h (dpa_ints ns)
theorem flat_ints (ns : List Int) : Flat 1 (.list (ns.map PyData.int)) := flat_list (n := 0) fun d hd => by
  obtain ⟨i, _, rfl⟩ := List.mem_map.mp hd
  exact flat_int _ _
theorem flat_tints (ns : List Int) : Flat 1 (.tuple (ns.map PyData.int)) := flat_tup (n := 0) fun d hd => by
  obtain ⟨i, _, rfl⟩ := List.mem_map.mp hd
  exact flat_int _ _
theorem eqvAll_ints : ∀ xs ys : List Int, PyData.eqvAll (xs.map .int) (ys.map .int) = decide (xs = ys)
  | [], [] => rfl
  | [], _ :: _ => rfl
  | _ :: _, [] => rfl
  | x :: xs, y :: ys => by
    show ((x == y) && PyData.eqvAll (xs.map .int) (ys.map .int)) = _
    rw [eqvAll_ints xs ys, Bool.eq_iff_iff]
    simp
theorem eqv_ints (xs ys : List Int) : PyData.eqv (.list (xs.map .int)) (.list (ys.map .int)) = decide (xs = ys) := eqvAll_ints xs ys
theorem eqv_tints (xs ys : List Int) : PyData.eqv (.tuple (xs.map .int)) (.tuple (ys.map .int)) = decide (xs = ys) := eqvAll_ints xs ys
/-- a def with defaults that lets nothing out -/
theorem okD {P : Program} {w : World} {K : PySem.W.Frag} {mg : Str → Option Value} {base : Heap} {x qual : Str} {params : Arguments} {body : List Stmt} {scope : Scope} {dvs : List V} {kws : List (Str × V)} {f : Addr} {fd : FuncData} {N ps : List Str} {k : Nat} {sp : Sp}
    (F : FunD K x qual params body scope dvs kws f fd) (S : FnScope N ps scope) (len : ∀ vs H Q E, sp vs H Q E → vs.length = ps.length)
    (hb : ∀ (cdv : Value) (A : Around) (outer : List Env) (s : Shared) (H : Hp) (vs : List V) (Q : VK) (E : XK), Room k (A.deeper (envOfC qual scope s.heap.objs.size f cdv)) → sp vs H Q E →
      ∃ t, PSs (cxOf CX0 P w K mg base N qual scope f cdv A outer s H E).nox body t ∧ t { nx := fun _ H' => Q .non H', rt := Q } (start N vs) H) : FnOk P w K mg base CX0 (k + 1) f fd ps sp :=
  F.ok S len fun cdv A outer s H vs Q E hr h => by
    obtain ⟨t, h1, q⟩ := hb cdv A outer s H vs Q E hr h
    exact ⟨t, h1.nox, q⟩
/-! what an expression gives, whatever stands besides -/
def EI (te : TE) (σ : L2.St) (H : Hp) (v : V) : Prop := ∀ G, Same H G → ∀ Q : VK, Q v G → te σ G Q
def EA (ta : TA) (σ : L2.St) (H : Hp) (vs : List V) : Prop := ∀ G, Same H G → ∀ Q : List V → Hp → Prop, Q vs G → ta σ G Q
/-- a list, new or old -/
def EL (te : TE) (σ : L2.St) (H : Hp) (xs : List V) : Prop := ∀ G, Same H G → ∀ Q : VK, (∀ p G', Same G G' → G' p = some (.lst xs) → Q (.ref p) G') → te σ G Q
section
variable {K : PySem.W.Frag} {σ : L2.St} {H : Hp} {ta tb te : TE} {x y z v : V} {xs ys : List V}
theorem ei_var {i : Nat} (h : σ[i]? = some (some v)) : EI (tVar i) σ H v := fun _ _ _ q => ⟨v, h, q⟩
theorem ei_c : EI (tC v) σ H v := fun _ _ _ q => q
theorem ei_op {r : R2} (ha : EI ta σ H x) (hb : EI tb σ H y) (hr : ∀ G, Same H G → ∀ Q : VK, Q z G → r x y G Q) : EI (tOp r ta tb) σ H z := fun G s Q q => ha G s _ (hb G s _ (hr G s Q q))
theorem ei_i0 {g : Int → Int → V} {i j : Int} (ha : EI ta σ H (.int i)) (hb : EI tb σ H (.int j)) : EI (tOp (rI0 g) ta tb) σ H (g i j) := ei_op ha hb fun _ _ _ q => ⟨i, j, rfl, rfl, q⟩
theorem ei_ic {C : Int → Int → Prop} {g : Int → Int → V} {i j : Int} (ha : EI ta σ H (.int i)) (hb : EI tb σ H (.int j)) (hc : C i j) : EI (tOp (rI C g) ta tb) σ H (g i j) := ei_op ha hb fun _ _ _ q => ⟨i, j, rfl, rfl, hc, q⟩
theorem ea_nil : EA tNil σ H [] := fun _ _ _ q => q
theorem ea_cons {tr : TA} {vs : List V} (h : EI ta σ H x) (g : EA tr σ H vs) : EA (tCons ta tr) σ H (x :: vs) := fun G s _ q => h G s _ (g G s _ q)
theorem ei_cb {r : List V → Hp → VK → Prop} {tr : TA} {vs : List V} (ha : EA tr σ H vs) (hr : ∀ G, Same H G → ∀ Q : VK, Q z G → r vs G Q) : EI (tCB r tr) σ H z := fun G s Q q => ha G s _ (hr G s Q q)
/-- len of a list, list(..) of a list or a tuple, as they are read -/
def rLen (K : PySem.W.Frag) : List V → Hp → VK → Prop := fun xs H Q => ∃ p ys, xs = [.ref p] ∧ (SqL K H p ys ∨ SqT K H p ys) ∧ Q (.int ys.length) H
def rLst (K : PySem.W.Frag) : List V → Hp → VK → Prop := fun xs H Q => ∃ p ys, xs = [.ref p] ∧ (SqL K H p ys ∨ SqT K H p ys) ∧ ∀ l, H l = none → Q (.ref l) (upd H l (.lst ys))
def rTup (K : PySem.W.Frag) : List V → Hp → VK → Prop := fun xs H Q => ∃ p ys, xs = [.ref p] ∧ ((SqL K H p ys ∧ ∀ l, H l = none → Q (.ref l) (upd H l (.tup ys))) ∨ (SqT K H p ys ∧ Q (.ref p) H))
theorem callK_tuple {X : Cx} (h : X.K = K) : CallR X (.type "tuple") (rTup K) := by subst h; exact call_tuple_of
theorem callK_list {X : Cx} (h : X.K = K) : CallR X (.type "list") (rLst K) := by subst h; exact call_list_of
theorem opK_catA {X : Cx} (h : X.K = K) : OpR X (binaryOp .Add) (rCatA K) := by subst h; exact op_catA
theorem ixK_list {X : Cx} (h : X.K = K) : IxR X (rIxL K) := by subst h; exact ix_list
theorem ixK_tup {X : Cx} (h : X.K = K) : IxR X (rIxT K) := by subst h; exact ix_tup
theorem pe_fldK {X : Cx} {e : Expr} {f : Str} {pos : Pos} {ta : TE} (h : X.K = K) (he : PE X e ta) (hb : attributeBase e f X.env (eval e X.env) = eval e X.env) : PE X (.Attribute e f pos) (tFld K ta f) := by subst h; exact pe_fld he hb
theorem callK_len {X : Cx} (h : X.K = K) : CallR X (.builtin "len") (rLen K) := by subst h; exact call_len_seq
theorem ei_lenL {i : Nat} {p : Addr} (h : σ[i]? = some (some (.ref p))) (e : SqL K H p xs) : EI (tCB (rLen K) (tCons (tVar i) tNil)) σ H (.int (xs.length : Int)) := ei_cb (ea_cons (ei_var h) ea_nil) fun _ s _ q => ⟨p, xs, rfl, .inl (s.seq e), q⟩
theorem ei_lenT {i : Nat} {p : Addr} (h : σ[i]? = some (some (.ref p))) (e : SqT K H p xs) : EI (tCB (rLen K) (tCons (tVar i) tNil)) σ H (.int (xs.length : Int)) := ei_cb (ea_cons (ei_var h) ea_nil) fun _ s _ q => ⟨p, xs, rfl, .inr (sqt_same s e), q⟩
theorem ei_fld {i : Nat} {p C dx : Addr} {fs : List (Str × V)} {f : Str} (h : σ[i]? = some (some (.ref p))) (hp : H p = some (.ins C dx fs)) (c : Cls K C) (n : NoAttr K C f) (l : fs.lookup f = some v) : EI (tFld K (tVar i) f) σ H v := fun _ s _ q => ⟨.ref p, h, p, C, dx, fs, v, rfl, s _ _ hp, c, n, l, q⟩
theorem ei_din {td : TE} {d : Addr} {kvs : List (Key × V)} {k : Key} (hy : EI te σ H (kV k)) (hd : EI td σ H (.ref d)) (e : H d = some (.dK kvs)) : EI (tDIn te td) σ H (.bl (valV kvs k).isSome) := fun G s _ q => hy G s _ (hd G s _ ⟨d, _, rfl, DGet.k (s _ _ e), q⟩)
theorem ei_dnotin {td : TE} {d : Addr} {kvs : List (Key × V)} {k : Key} (hy : EI te σ H (kV k)) (hd : EI td σ H (.ref d)) (e : H d = some (.dK kvs)) : EI (tDNotIn te td) σ H (.bl (!(valV kvs k).isSome)) := fun G s _ q => hy G s _ (hd G s _ ⟨d, _, rfl, DGet.k (s _ _ e), q⟩)
theorem ei_dget {td : TE} {d : Addr} {kvs : List (Key × V)} {k : Key} (hy : EI te σ H (kV k)) (hd : EI td σ H (.ref d)) (e : H d = some (.dK kvs)) (hv : valV kvs k = some v) : EI (tDGet td te) σ H v := fun G s _ q => hd G s _ (hy G s _ ⟨d, v, rfl, by rw [← hv]; exact DGet.k (s _ _ e), q⟩)
theorem ei_ixL {p : Addr} {j : Int} (ha : EI ta σ H (.ref p)) (hi : EI tb σ H (.int j)) (e : SqL K H p xs) (h : atI xs j = some v) : EI (tOp (rIxL K) ta tb) σ H v := ei_op ha hi fun _ s _ q => ⟨p, xs, j, v, rfl, rfl, s.seq e, h, q⟩
theorem ei_ixT {p : Addr} {j : Int} (ha : EI ta σ H (.ref p)) (hi : EI tb σ H (.int j)) (e : SqT K H p xs) (h : atI xs j = some v) : EI (tOp (rIxT K) ta tb) σ H v := ei_op ha hi fun _ s _ q => ⟨p, xs, j, v, rfl, rfl, sqt_same s e, h, q⟩
theorem ei_eq (ha : EI ta σ H x) (hb : EI tb σ H y) (h : scal x y = true) : EI (tOp rEq ta tb) σ H (.bl (decide (x = y))) := ei_op ha hb fun _ _ _ q => ⟨h, q⟩
theorem ei_ne (ha : EI ta σ H x) (hb : EI tb σ H y) (h : scal x y = true) : EI (tOp rNe ta tb) σ H (.bl (!decide (x = y))) := ei_op ha hb fun _ _ _ q => ⟨h, q⟩
/-- a test by its value -/
theorem tt_use {b : Bool} {Q : Bool → Hp → Prop} (h : EI te σ H (.bl b)) (k : Q b H) : tTest te σ H Q := h H (Same.refl _) _ ⟨b, rfl, k⟩
theorem tb_use {b : Bool} {Q : Bool → Hp → Prop} (h : EI te σ H (.bl b)) (k : Q b H) : tB te σ H Q := h H (Same.refl _) _ ⟨b, rfl, k⟩
theorem el_var {i : Nat} {p : Addr} (h : σ[i]? = some (some (.ref p))) (e : H p = some (.lst xs)) : EL (tVar i) σ H xs := fun G s _ q => ⟨.ref p, h, q p G (Same.refl _) (s _ _ e)⟩
/-- a new list -/
def EN (te : TE) (σ : L2.St) (H : Hp) (xs : List V) : Prop := ∀ G, Same H G → ∀ Q : VK, (∀ p G', G p = none → Same G G' → G' p = some (.lst xs) → Q (.ref p) G') → te σ G Q
theorem EN.el (h : EN te σ H xs) : EL te σ H xs := fun G s Q q => h G s Q fun p G' _ => q p G'
theorem en_lst {tr : TA} {vs : List V} (ha : EA tr σ H vs) (hl : vs.length ≤ 90000) : EN (tLst tr) σ H vs := fun G s _ q => ha G s _ ⟨sz (by omega), fun p hp => q p _ hp (same_upd hp) upd_same⟩
theorem en_cat (ha : EL ta σ H xs) (hb : EL tb σ H ys) (hl : xs.length + ys.length ≤ 90000) : EN (tOp rCat ta tb) σ H (xs ++ ys) := fun G s _ q =>
  ha G s _ fun p G1 s1 e1 => hb G1 (s.trans s1) _ fun p2 G2 s2 e2 => ⟨p, p2, xs, ys, rfl, rfl, s2 _ _ e1, e2, sz (by omega), fun p3 h3 => q p3 _ ((s1.trans s2).free h3) ((s1.trans s2).trans (same_upd h3)) upd_same⟩
theorem en_rep {k : Int} (ha : EL ta σ H xs) (hb : EI tb σ H (.int k)) (h1 : -1000000 ≤ k) (h2 : k ≤ 1000000) (hl : xs.length * k.toNat ≤ 90000) : EN (tOp rRep ta tb) σ H (List.replicate k.toNat xs).flatten := fun G s _ q =>
  ha G s _ fun p G1 s1 e1 => hb G1 (s.trans s1) _ ⟨p, k, xs, rfl, rfl, e1, by omega, by omega, sz (by omega), fun p3 h3 => q p3 _ (s1.free h3) (s1.trans (same_upd h3)) upd_same⟩
theorem el_lst {tr : TA} {vs : List V} (ha : EA tr σ H vs) (hl : vs.length ≤ 90000) : EL (tLst tr) σ H vs := (en_lst ha hl).el
theorem el_cat (ha : EL ta σ H xs) (hb : EL tb σ H ys) (hl : xs.length + ys.length ≤ 90000) : EL (tOp rCat ta tb) σ H (xs ++ ys) := (en_cat ha hb hl).el
theorem el_rep {k : Int} (ha : EL ta σ H xs) (hb : EI tb σ H (.int k)) (h1 : -1000000 ≤ k) (h2 : k ≤ 1000000) (hl : xs.length * k.toNat ≤ 90000) : EL (tOp rRep ta tb) σ H (List.replicate k.toNat xs).flatten := (en_rep ha hb h1 h2 hl).el
theorem el_cb {r : List V → Hp → VK → Prop} {tr : TA} {vs : List V} (ha : EA tr σ H vs) (hr : ∀ G, Same H G → ∀ Q : VK, (∀ p G', Same G G' → G' p = some (.lst xs) → Q (.ref p) G') → r vs G Q) : EL (tCB r tr) σ H xs := fun G s Q q => ha G s _ (hr G s Q q)
theorem el_call {sp : Sp} {dvs : List V} {E : XK} {tr : TA} {vs : List V} (ha : EA tr σ H vs) (hr : ∀ G, Same H G → ∀ Q : VK, (∀ p G', Same G G' → G' p = some (.lst xs) → Q (.ref p) G') → sp (vs ++ dvs) G Q E) : EL (tCall sp dvs E tr) σ H xs := fun G s Q q => ha G s _ (hr G s Q q)
theorem el_listL {i : Nat} {p : Addr} (h : σ[i]? = some (some (.ref p))) (e : SqL K H p xs) : EL (tCB (rLst K) (tCons (tVar i) tNil)) σ H xs := el_cb (ea_cons (ei_var h) ea_nil) fun _ s _ q => ⟨p, xs, rfl, .inl (s.seq e), fun l hl => q l _ (same_upd hl) upd_same⟩
theorem el_listT {i : Nat} {p : Addr} (h : σ[i]? = some (some (.ref p))) (e : SqT K H p xs) : EL (tCB (rLst K) (tCons (tVar i) tNil)) σ H xs := el_cb (ea_cons (ei_var h) ea_nil) fun _ s _ q => ⟨p, xs, rfl, .inr (sqt_same s e), fun l hl => q l _ (same_upd hl) upd_same⟩
/-- x = an expression that gives a list -/
theorem EL.use {Q : VK} (h : EL te σ H xs) (k : ∀ p H', Same H H' → H' p = some (.lst xs) → Q (.ref p) H') : te σ H Q := h H (Same.refl _) Q k
theorem EN.use {Q : VK} (h : EN te σ H xs) (k : ∀ p H', H p = none → Same H H' → H' p = some (.lst xs) → Q (.ref p) H') : te σ H Q := h H (Same.refl _) Q k
theorem EI.use {Q : VK} (h : EI te σ H v) (k : Q v H) : te σ H Q := h H (Same.refl _) Q k
end
/-- defaults: what is bound where keywords give the rest -/
theorem kb_one {K : PySem.W.Frag} {x qual : Str} {params : Arguments} {body : List Stmt} {scope : Scope} {dvs : List V} {f : Addr} {fd : FuncData} {ps : List Str} (F : FunD K x qual params body scope dvs [] f fd) (n : Nat) (ks : List Str) (hd : dvs ≠ [])
    (h : ∀ (T : Addr) (kV doc pm : Value) (an : Option Addr) (cdv ct : Value) (us ws its : List Value), us.length = n → ws.length = ks.length → its.length = dvs.length →
      ∃ k, bindArgs (PySem.W.fnOf x qual params body scope (.ref T) kV doc pm an cdv ct) ⟨us, ks.zip ws⟩ = seqItems? (.ref T) >>= k ∧ k (some its.toArray) = pure (ps.zip (us ++ ws))) :
    KBn K fd ps n ks (fun us ws => us ++ ws) (fun vs zs => vs ++ zs) := by
  obtain ⟨oc, od, dV, kV, doc, pm, an, cdv, ct, osl, rfl, lk, hcd, hD, hK⟩ := F.ex
  rcases hD with ⟨e, _⟩ | ⟨_, T, o, its, m, rfl, lT, oT, rT⟩
  · exact absurd e hd
  · refine ⟨fun s us ws X h1 h2 => BindsTo.of_looks fun M => ?_, fun r1 r2 => r1.append r2⟩
    obtain ⟨k, e1, e2⟩ := h T kV doc pm an cdv ct us ws its h1 h2 rT.length.symm
    rw [e1]
    exact looks_items X lT oT (.of_pure e2)
theorem andV_use {ta tb : TE} {σ : L2.St} {H : Hp} {Q : VK} {x y : Bool} (h1 : EI ta σ H (.bl x)) (h2 : x = true → ∀ Q' : VK, (∀ H', Same H H' → Q' (.bl y) H') → tb σ H Q') (k : ∀ H', Same H H' → Q (.bl (x && y)) H') : tAndV ta tb σ H Q := by
  refine h1 H (Same.refl _) _ ⟨x, rfl, ?_⟩
  cases x with
  | true => exact (if_pos rfl).mpr (h2 rfl _ k)
  | false => exact (if_neg Bool.false_ne_true).mpr (k H (Same.refl _))
/-- what is locked and let go stands as it stood -/
theorem unlock {H H' : Hp} {d : Addr} {od : Obj} {u : HO} (e : H d = some u) (s : Same (upd H d (.frz od u)) H') : Same H (upd H' d u) := fun b o h => by
  by_cases hb : b = d
  · subst hb
    rw [upd_same, ← e]
    exact h
  · rw [upd_ne hb]
    exact s b o (by rw [upd_ne hb]; exact h)
theorem take_filter {α : Type} {l : List α} {i : Nat} {x : α} (f : α → Bool) (h : l[i]? = some x) : (l.take (i + 1)).filter f = (l.take i).filter f ++ if f x then [x] else [] := by
  rw [take_more h, List.filter_append]
  cases e : f x <;> simp [e]
/-- [e for k in d if t] over the keys of a dict, t and e change nothing -/
theorem lc_keys {td te : TE} {tt : TT} {s : Nat} {σ : L2.St} {H : Hp} {Q : VK} (d : Addr) (kvs : List (Key × V)) (f : Key → Bool) (g : Key → V) (e : H d = some (.dK kvs)) (hlen : kvs.length ≤ 90000)
    (htd : ∀ od, EI td σ (upd H d (.frz od (.dK kvs))) (.ref d))
    (hw : ∀ x, wipe ((wipe σ [s]).set s (some x)) [s] = wipe σ [s])
    (ht : ∀ (od : Obj) (i : Nat) (k : Key) (v : V) (G : Hp) (Q' : Bool → Hp → Prop), kvs[i]? = some (k, v) → Same (upd H d (.frz od (.dK kvs))) G → Q' (f k) G → tt ((wipe σ [s]).set s (some (kV k))) G Q')
    (he : ∀ (od : Obj) (i : Nat) (k : Key) (v : V) (G : Hp) (Q' : VK), kvs[i]? = some (k, v) → Same (upd H d (.frz od (.dK kvs))) G → Q' (g k) G → te ((wipe σ [s]).set s (some (kV k))) G Q')
    (k : ∀ D H', H D = none → Same H H' → H' D = some (.lst ((kvs.filter fun kv => f kv.1).map fun kv => g kv.1)) → Q (.ref D) H') : tLockE (tLc (iKeys td) (gName s) tt te [s]) σ H Q := by
  refine ⟨d, _, e, trivial, fun od => htd od _ (Same.refl _) _ ⟨d, od, rfl, .inl ⟨kvs, upd_same, fun D hD => ?_⟩⟩⟩
  have nD : D ≠ d := fun z => by rw [z, upd_same] at hD; cases hD
  have hD0 : H D = none := by rw [upd_ne nD] at hD; exact hD
  refine lc_it walk_keys (fun i G => Same (upd H d (.frz od (.dK kvs))) G ∧ G D = some (.lst (((kvs.take i).filter fun kv => f kv.1).map fun kv => g kv.1)))
    ⟨same_upd hD, upd_same⟩ (fun i G _ h => h.1 _ _ upd_same) (fun i x G G' hi hG hy => ?_) (fun G hG => ?_)
  · obtain ⟨rfl, key, v, hkv, rfl⟩ := hy
    have hfl : ((kvs.take i).filter fun kv => f kv.1).length ≤ 90000 := Nat.le_trans (List.length_filter_le _ _) (by rw [List.length_take]; omega)
    refine ⟨hw _, ht od i key v _ _ hkv hG.1 ?_⟩
    have hts := take_filter (fun kv : Key × V => f kv.1) hkv
    cases hf : f key with
    | true =>
      refine (if_pos rfl).mpr (he od i key v _ _ hkv hG.1 ⟨_, hG.2, szl (by rw [List.length_map]; omega), same_put hG.1 hD, ?_⟩)
      rw [upd_same, hts, List.map_append]
      simp only [hf, if_true]
      rfl
    | false =>
      refine (if_neg Bool.false_ne_true).mpr ⟨hG.1, ?_⟩
      rw [hts]
      simp only [hf, Bool.false_eq_true, if_false, List.append_nil]
      exact hG.2
  · rw [List.take_length] at hG
    refine ⟨hG.1 _ _ upd_same, k D _ hD0 (unlock e hG.1) ?_⟩
    rw [upd_ne nD]
    exact hG.2
theorem put_fresh {kvs : List (Key × V)} {k : Key} {v : V} (h : ∀ kv ∈ kvs, kv.1 ≠ k) : putK kvs k v = kvs ++ [(k, v)] := by
  unfold putK
  rw [if_neg]
  intro z
  obtain ⟨kv, hm, hk⟩ := List.any_eq_true.mp z
  exact h kv hm (of_decide_eq_true hk)
theorem nd_ne {α β : Type} {l : List (α × β)} {i : Nat} {x : α × β} (nd : (l.map (·.1)).Nodup) (h : l[i]? = some x) : ∀ y ∈ l.take i, y.1 ≠ x.1 := fun y hy z => by
  obtain ⟨j, hj, rfl⟩ := List.getElem_of_mem hy
  rw [List.length_take] at hj
  rw [List.getElem_take] at z
  obtain ⟨hi, rfl⟩ := List.getElem?_eq_some_iff.mp h
  have e1 : (l.map (·.1))[j]? = some l[i].1 := by rw [List.getElem?_map, List.getElem?_eq_getElem (by omega), ← z]; rfl
  have e2 : (l.map (·.1))[i]? = some l[i].1 := by rw [List.getElem?_map, List.getElem?_eq_getElem hi]; rfl
  have := nd_ix nd e1 e2
  omega
/-- {k: e for k in d if t} over the keys of a dict -/
theorem dc_keys {td tv : TE} {tt : TT} {s : Nat} {σ : L2.St} {H : Hp} {Q : VK} (d : Addr) (kvs : List (Key × V)) (f : Key → Bool) (g : Key × V → V) (e : H d = some (.dK kvs)) (hlen : kvs.length ≤ 90000) (nd : (kvs.map (·.1)).Nodup)
    (htd : ∀ od, EI td σ (upd H d (.frz od (.dK kvs))) (.ref d))
    (hw : ∀ x, wipe ((wipe σ [s]).set s (some x)) [s] = wipe σ [s])
    (ht : ∀ (od : Obj) (i : Nat) (k : Key) (v : V) (G : Hp) (Q' : Bool → Hp → Prop), kvs[i]? = some (k, v) → Same (upd H d (.frz od (.dK kvs))) G → Q' (f k) G → tt ((wipe σ [s]).set s (some (kV k))) G Q')
    (he : ∀ (od : Obj) (i : Nat) (k : Key) (v : V) (G : Hp) (Q' : VK), kvs[i]? = some (k, v) → f k = true → Same (upd H d (.frz od (.dK kvs))) G → Q' (g (k, v)) G → tv ((wipe σ [s]).set s (some (kV k))) G Q')
    (hn : ∀ i, (wipe σ [s]).length = i → s < i)
    (k : ∀ D H', H D = none → Same H H' → H' D = some (.dK ((kvs.filter fun kv => f kv.1).map fun kv => (kv.1, g kv))) → Q (.ref D) H') : tLockE (tDc (iKeys td) (gName s) tt (tVar s) tv [s]) σ H Q := by
  have hs : s < (wipe σ [s]).length := hn _ rfl
  refine ⟨d, _, e, trivial, fun od => htd od _ (Same.refl _) _ ⟨d, od, rfl, .inl ⟨kvs, upd_same, fun D hD => ?_⟩⟩⟩
  have nD : D ≠ d := fun z => by rw [z, upd_same] at hD; cases hD
  have hD0 : H D = none := by rw [upd_ne nD] at hD; exact hD
  let Pv : Nat → Hp → Prop := fun i G => Same (upd H d (.frz od (.dK kvs))) G ∧ G D = some (.dK (((kvs.take i).filter fun kv => f kv.1).map fun kv => (kv.1, g kv)))
  have step : ∀ i x G G', i < kvs.length → Pv i G → (G' = G ∧ ∃ k v, kvs[i]? = some (k, v) ∧ x = kV k) → gName s x (wipe σ [s]) G' fun σ2 H2 => wipe σ2 [s] = wipe σ [s] ∧ tt σ2 H2 fun b H3 =>
      if b = true then tVar s σ2 H3 fun y H4 => tv σ2 H4 fun z H5 => ∃ kvs' k', y = kV k' ∧ H5 D = some (.dK kvs') ∧ kvs'.length < sizeLine ∧ Pv (i + 1) (upd H5 D (.dK (putK kvs' k' z))) else Pv (i + 1) H3 := fun i x G G' hi hG hy => by
    obtain ⟨rfl, key, v, hkv, rfl⟩ := hy
    have hfl : ((kvs.take i).filter fun kv => f kv.1).length ≤ 90000 := Nat.le_trans (List.length_filter_le _ _) (by rw [List.length_take]; omega)
    refine ⟨hw _, ht od i key v _ _ hkv hG.1 ?_⟩
    have hts := take_filter (fun kv : Key × V => f kv.1) hkv
    cases hf : f key with
    | true =>
      refine (if_pos rfl).mpr ⟨kV key, by rw [List.getElem?_set_self hs], he od i key v _ _ hkv hf hG.1 ⟨_, key, rfl, hG.2, szl (by rw [List.length_map]; omega), same_put hG.1 hD, ?_⟩⟩
      rw [upd_same, hts, List.map_append, put_fresh]
      · simp only [hf, if_true]
        rfl
      · intro kv hm
        obtain ⟨y, hy, rfl⟩ := List.mem_map.mp hm
        exact nd_ne nd hkv y (List.mem_filter.mp hy).1
    | false =>
      refine (if_neg Bool.false_ne_true).mpr ⟨hG.1, ?_⟩
      rw [hts]
      simp only [hf, Bool.false_eq_true, if_false, List.append_nil]
      exact hG.2
  refine ⟨fun i m G => m = kvs.length - i ∧ i ≤ kvs.length ∧ Pv i G, ⟨kvs.length, by simp, Nat.zero_le _, same_upd hD, upd_same⟩, ?_⟩
  rintro i m G ⟨rfl, hi, hP⟩
  by_cases hlt : i < kvs.length
  · exact .inr ⟨⟨hP.1 _ _ upd_same, hlt⟩, Pv (i + 1), fun G' p' => ⟨kvs.length - (i + 1), by omega, rfl, hlt, p'⟩, fun x G' y => step i x G G' hlt hP y⟩
  · have ei : i = kvs.length := by omega
    subst ei
    obtain ⟨h1, h2⟩ := hP
    rw [List.take_length] at h2
    refine .inl ⟨⟨h1 _ _ upd_same, Nat.le_refl _⟩, h1 _ _ upd_same, k D _ hD0 (unlock e h1) ?_⟩
    rw [upd_ne nD]
    exact h2
/-! the same within a comprehension -/
section
variable {K : PySem.W.Frag} {X : Cx} {pos : Pos}
theorem pgK_tup {es : List Expr} {k : Nat} {t : TGs} {n : Nat} (hK : X.K = K) (hc : X.calm = true) (h : PGs X es t)
    (hn : (assignEach es X.env).length = n := by rfl) (hst : (assignEach es X.env).findIdx? (·.1) = none := by rfl) : PG X (.Tuple es k pos) (gTup K n t) := by subst hK; exact pg_tup hc h hn hst
theorem opK_in (h : X.K = K) : OpR X (compareOp .In) (rIn K false) := by subst h; exact op_in_seq
theorem opK_notIn (h : X.K = K) : OpR X (compareOp .NotIn) (rIn K true) := by subst h; exact op_notIn_seq
theorem opK_eqD (h : X.K = K) (hu : X.A.units + 64 < cLine) : OpR X (compareOp .Eq) (rEqD K) := by subst h; exact op_eqD hu
theorem opK_neD (h : X.K = K) (hu : X.A.units + 64 < cLine) : OpR X (compareOp .NotEq) (rNeD K) := by subst h; exact op_neD hu
theorem callK_isi (h : X.K = K) : CallR X (.builtin "isinstance") (rIsi K) := by subst h; exact call_isi
theorem slK_tup (h : X.K = K) : SlR X (rSlT K) := by subst h; exact sl_tup
end
end My
local macro_rules | `(tactic| walk_at "go") => `(tactic| try dsimp only [L2.gName, L2.tSeq, L2.tAsg, L2.tNext, L2.tDrop])
namespace My
open PySem PySem.Spec PyProof.Rows L2
def topS (i : Nat) : Stmt := PySem.Challenge.pw_majordomo_k06_things_that_are_no_values.main.body.getD i (.Pass ⟨0, 0, 0, 0⟩)
abbrev s_has_plain_characters : Stmt := (topS 11)
theorem sc_has_plain_characters : FnScope ["text", "character", "code"] ["text"] (defScope s_has_plain_characters) := ⟨rfl, rfl, rfl, by decide +kernel, rfl, by decide +kernel, by decide +kernel⟩
abbrev s_put_number : Stmt := (topS 13)
theorem sc_put_number : FnScope ["number", "row"] ["number"] (defScope s_put_number) := ⟨rfl, rfl, rfl, by decide +kernel, rfl, by decide +kernel, by decide +kernel⟩
abbrev s_is_value : Stmt := (topS 24)
theorem sc_is_value : FnScope ["value"] ["value"] (defScope s_is_value) := ⟨rfl, rfl, rfl, by decide +kernel, rfl, by decide +kernel, by decide +kernel⟩
abbrev s__is_value_within : Stmt := (topS 25)
theorem sc__is_value_within : FnScope ["value", "depth", "member"] ["value", "depth"] (defScope s__is_value_within) := ⟨rfl, rfl, rfl, by decide +kernel, rfl, by decide +kernel, by decide +kernel⟩
abbrev s_pack : Stmt := (topS 26)
theorem sc_pack : FnScope ["value"] ["value"] (defScope s_pack) := ⟨rfl, rfl, rfl, by decide +kernel, rfl, by decide +kernel, by decide +kernel⟩
abbrev s__packed : Stmt := (topS 27)
theorem sc__packed : FnScope ["value", "row", "member", "character"] ["value"] (defScope s__packed) := ⟨rfl, rfl, rfl, by decide +kernel, rfl, by decide +kernel, by decide +kernel⟩
abbrev s__law_draws : Stmt := (topS 29)
theorem sc__law_draws : FnScope ["script", "many", "draws", "mixed", "k", "cell", "rest", "turn"] ["script", "many"] (defScope s__law_draws) := ⟨rfl, rfl, rfl, by decide +kernel, rfl, by decide +kernel, by decide +kernel⟩
abbrev s__law_char : Stmt := (topS 30)
theorem sc__law_char : FnScope ["draw", "chars"] ["draw"] (defScope s__law_char) := ⟨rfl, rfl, rfl, by decide +kernel, rfl, by decide +kernel, by decide +kernel⟩
abbrev s__law_refused : Stmt := (topS 31)
theorem sc__law_refused : FnScope ["value", "row", "e"] ["value"] (defScope s__law_refused) := ⟨rfl, rfl, rfl, by decide +kernel, rfl, by decide +kernel, by decide +kernel⟩
abbrev s__law_accepted : Stmt := (topS 32)
theorem sc__law_accepted : FnScope ["value"] ["value"] (defScope s__law_accepted) := ⟨rfl, rfl, rfl, by decide +kernel, rfl, by decide +kernel, by decide +kernel⟩
abbrev s__law_chain : Stmt := (topS 33)
theorem sc__law_chain : FnScope ["value", "depth", "k"] ["value", "depth"] (defScope s__law_chain) := ⟨rfl, rfl, rfl, by decide +kernel, rfl, by decide +kernel, by decide +kernel⟩
abbrev s__law_word : Stmt := (topS 34)
theorem sc__law_word : FnScope ["draws", "draw"] ["draws"] (defScope s__law_word) := ⟨rfl, rfl, rfl, by decide +kernel, rfl, by decide +kernel, by decide +kernel⟩
abbrev s_law : Stmt := (topS 35)
theorem sc_law : FnScope ["script", "draws", "limit", "k", "near", "word", "other", "strange", "good", "bad", "value"] ["script"] (defScope s_law) := ⟨rfl, rfl, rfl, by decide +kernel, rfl, by decide +kernel, by decide +kernel⟩

structure TX (K : PySem.W.Frag) (mg : Str → Option Value) where
  a_MajordomoError : Addr
  g_MajordomoError : mg "MajordomoError" = some (.ref a_MajordomoError)
  x_MajordomoError : PySem.W.excIn K a_MajordomoError [.type "ValueError", .type "Exception", .type "BaseException", .type "object"] "ValueError.__new__" = true
  k_MajordomoError : PySem.W.keepIn K (.ref a_MajordomoError) = true
  s_MajordomoError : PySem.W.subIn K (.ref a_MajordomoError) (.type "BaseException") = some true
  t_MajordomoError : PySem.W.typeIn K (.ref a_MajordomoError) = some (.type "type")
  a_CodecError : Addr
  g_CodecError : mg "CodecError" = some (.ref a_CodecError)
  x_CodecError : PySem.W.excIn K a_CodecError [.type "ValueError", .type "Exception", .type "BaseException", .type "object"] "ValueError.__new__" = true
  k_CodecError : PySem.W.keepIn K (.ref a_CodecError) = true
  s_CodecError : PySem.W.subIn K (.ref a_CodecError) (.type "BaseException") = some true
  t_CodecError : PySem.W.typeIn K (.ref a_CodecError) = some (.type "type")
  a_Truncated : Addr
  g_Truncated : mg "Truncated" = some (.ref a_Truncated)
  x_Truncated : PySem.W.excIn K a_Truncated [.type "ValueError", .type "Exception", .type "BaseException", .type "object"] "ValueError.__new__" = true
  k_Truncated : PySem.W.keepIn K (.ref a_Truncated) = true
  s_Truncated : PySem.W.subIn K (.ref a_Truncated) (.type "BaseException") = some true
  t_Truncated : PySem.W.typeIn K (.ref a_Truncated) = some (.type "type")
  a_Malformed : Addr
  g_Malformed : mg "Malformed" = some (.ref a_Malformed)
  x_Malformed : PySem.W.excIn K a_Malformed [.type "ValueError", .type "Exception", .type "BaseException", .type "object"] "ValueError.__new__" = true
  k_Malformed : PySem.W.keepIn K (.ref a_Malformed) = true
  s_Malformed : PySem.W.subIn K (.ref a_Malformed) (.type "BaseException") = some true
  t_Malformed : PySem.W.typeIn K (.ref a_Malformed) = some (.type "type")
  a_Damaged : Addr
  g_Damaged : mg "Damaged" = some (.ref a_Damaged)
  x_Damaged : PySem.W.excIn K a_Damaged [.type "ValueError", .type "Exception", .type "BaseException", .type "object"] "ValueError.__new__" = true
  k_Damaged : PySem.W.keepIn K (.ref a_Damaged) = true
  s_Damaged : PySem.W.subIn K (.ref a_Damaged) (.type "BaseException") = some true
  t_Damaged : PySem.W.typeIn K (.ref a_Damaged) = some (.type "type")
  a_NotAValue : Addr
  g_NotAValue : mg "NotAValue" = some (.ref a_NotAValue)
  x_NotAValue : PySem.W.excIn K a_NotAValue [.type "ValueError", .type "Exception", .type "BaseException", .type "object"] "ValueError.__new__" = true
  k_NotAValue : PySem.W.keepIn K (.ref a_NotAValue) = true
  s_NotAValue : PySem.W.subIn K (.ref a_NotAValue) (.type "BaseException") = some true
  t_NotAValue : PySem.W.typeIn K (.ref a_NotAValue) = some (.type "type")
  ee_NotAValue : PySem.W.exmOne K (.ref a_NotAValue) (.ref a_NotAValue) = some true
  X_NotAValue : ExcC K a_NotAValue
  y_NotAValue_Truncated : PySem.W.kitOne K (.ref a_NotAValue) (.ref a_Truncated) = some false
  y_NotAValue_Malformed : PySem.W.kitOne K (.ref a_NotAValue) (.ref a_Malformed) = some false
  y_NotAValue_Damaged : PySem.W.kitOne K (.ref a_NotAValue) (.ref a_Damaged) = some false
  y_NotAValue_CodecError : PySem.W.kitOne K (.ref a_NotAValue) (.ref a_CodecError) = some true
  a_has_plain_characters : Addr
  d_has_plain_characters : FuncData
  F_has_plain_characters : Fun K "has_plain_characters" "has_plain_characters" s_has_plain_characters a_has_plain_characters d_has_plain_characters
  b_has_plain_characters : Binds K d_has_plain_characters ["text"] []
  g_has_plain_characters : mg "has_plain_characters" = some (.ref a_has_plain_characters)
  a_put_number : Addr
  d_put_number : FuncData
  F_put_number : Fun K "put_number" "put_number" s_put_number a_put_number d_put_number
  b_put_number : Binds K d_put_number ["number"] []
  g_put_number : mg "put_number" = some (.ref a_put_number)
  a_is_value : Addr
  d_is_value : FuncData
  F_is_value : Fun K "is_value" "is_value" s_is_value a_is_value d_is_value
  b_is_value : Binds K d_is_value ["value"] []
  g_is_value : mg "is_value" = some (.ref a_is_value)
  a__is_value_within : Addr
  d__is_value_within : FuncData
  F__is_value_within : Fun K "_is_value_within" "_is_value_within" s__is_value_within a__is_value_within d__is_value_within
  b__is_value_within : Binds K d__is_value_within ["value", "depth"] []
  g__is_value_within : mg "_is_value_within" = some (.ref a__is_value_within)
  a_pack : Addr
  d_pack : FuncData
  F_pack : Fun K "pack" "pack" s_pack a_pack d_pack
  b_pack : Binds K d_pack ["value"] []
  g_pack : mg "pack" = some (.ref a_pack)
  a__packed : Addr
  d__packed : FuncData
  F__packed : Fun K "_packed" "_packed" s__packed a__packed d__packed
  b__packed : Binds K d__packed ["value"] []
  g__packed : mg "_packed" = some (.ref a__packed)
  a__law_draws : Addr
  d__law_draws : FuncData
  F__law_draws : Fun K "_law_draws" "_law_draws" s__law_draws a__law_draws d__law_draws
  b__law_draws : Binds K d__law_draws ["script", "many"] []
  g__law_draws : mg "_law_draws" = some (.ref a__law_draws)
  a__law_char : Addr
  d__law_char : FuncData
  F__law_char : Fun K "_law_char" "_law_char" s__law_char a__law_char d__law_char
  b__law_char : Binds K d__law_char ["draw"] []
  g__law_char : mg "_law_char" = some (.ref a__law_char)
  a__law_refused : Addr
  d__law_refused : FuncData
  F__law_refused : Fun K "_law_refused" "_law_refused" s__law_refused a__law_refused d__law_refused
  b__law_refused : Binds K d__law_refused ["value"] []
  g__law_refused : mg "_law_refused" = some (.ref a__law_refused)
  a__law_accepted : Addr
  d__law_accepted : FuncData
  F__law_accepted : Fun K "_law_accepted" "_law_accepted" s__law_accepted a__law_accepted d__law_accepted
  b__law_accepted : Binds K d__law_accepted ["value"] []
  g__law_accepted : mg "_law_accepted" = some (.ref a__law_accepted)
  a__law_chain : Addr
  d__law_chain : FuncData
  F__law_chain : Fun K "_law_chain" "_law_chain" s__law_chain a__law_chain d__law_chain
  b__law_chain : Binds K d__law_chain ["value", "depth"] []
  g__law_chain : mg "_law_chain" = some (.ref a__law_chain)
  a__law_word : Addr
  d__law_word : FuncData
  F__law_word : Fun K "_law_word" "_law_word" s__law_word a__law_word d__law_word
  b__law_word : Binds K d__law_word ["draws"] []
  g__law_word : mg "_law_word" = some (.ref a__law_word)
  a_law : Addr
  d_law : FuncData
  F_law : Fun K "law" "law" s_law a_law d_law
  b_law : Binds K d_law ["script"] []
  g_law : mg "law" = some (.ref a_law)
  t_SPACE : Tok
  c_SPACE : mg "SPACE" = some (.int 32 t_SPACE)
  t_PERCENT : Tok
  c_PERCENT : mg "PERCENT" = some (.int 37 t_PERCENT)
  t_TILDE : Tok
  c_TILDE : mg "TILDE" = some (.int 126 t_TILDE)
  t_MOST_BITS : Tok
  c_MOST_BITS : mg "MOST_BITS" = some (.int 3000 t_MOST_BITS)
  t_MOST_LENGTH : Tok
  c_MOST_LENGTH : mg "MOST_LENGTH" = some (.int 60000 t_MOST_LENGTH)
  t_MOST_DEPTH : Tok
  c_MOST_DEPTH : mg "MOST_DEPTH" = some (.int 20 t_MOST_DEPTH)
  t_FALSE_TAG : Tok
  c_FALSE_TAG : mg "FALSE_TAG" = some (.int 1 t_FALSE_TAG)
  t_TRUE_TAG : Tok
  c_TRUE_TAG : mg "TRUE_TAG" = some (.int 2 t_TRUE_TAG)
  t_NATURAL_TAG : Tok
  c_NATURAL_TAG : mg "NATURAL_TAG" = some (.int 3 t_NATURAL_TAG)
  t_NEGATIVE_TAG : Tok
  c_NEGATIVE_TAG : mg "NEGATIVE_TAG" = some (.int 4 t_NEGATIVE_TAG)
  t_TEXT_TAG : Tok
  c_TEXT_TAG : mg "TEXT_TAG" = some (.int 5 t_TEXT_TAG)
  t_TUPLE_TAG : Tok
  c_TUPLE_TAG : mg "TUPLE_TAG" = some (.int 6 t_TUPLE_TAG)
  n_ord : mg "ord" = none
  n_isinstance : mg "isinstance" = none
  n_bool : mg "bool" = none
  n_int : mg "int" = none
  n_str : mg "str" = none
  n_len : mg "len" = none
  n_tuple : mg "tuple" = none
  n_range : mg "range" = none
  n_abs : mg "abs" = none

theorem or_use {ta tb : TT} {σ : L2.St} {H : Hp} {Q : Bool → Hp → Prop} {x y : Bool} (ha : ∀ R : Bool → Hp → Prop, R x H → ta σ H R) (hb : ∀ R : Bool → Hp → Prop, R y H → tb σ H R) (q : Q (x || y) H) : tOr ta tb σ H Q := by
  refine ha _ ?_
  cases x with
  | true => exact (if_pos rfl).mpr q
  | false => exact (if_neg Bool.false_ne_true).mpr (hb _ q)
theorem and_use {ta tb : TT} {σ : L2.St} {H : Hp} {Q : Bool → Hp → Prop} {x y : Bool} (ha : ∀ R : Bool → Hp → Prop, R x H → ta σ H R) (hb : ∀ R : Bool → Hp → Prop, R y H → tb σ H R) (q : Q (x && y) H) : tAnd ta tb σ H Q := by
  refine ha _ ?_
  cases x with
  | true => exact (if_pos rfl).mpr (hb _ q)
  | false => exact (if_neg Bool.false_ne_true).mpr q
def Bytes (bs : List Int) : Prop := ∀ b ∈ bs, 0 ≤ b ∧ b < 256
/-- numbers stay below this -/
def Lim : Nat := 128 ^ 500
/-! numbers written in groups of seven bits -/
def enc (n : Nat) : List Int := if h : n ≤ 127 then [(n : Int)] else ((128 + n % 128 : Nat) : Int) :: enc (n / 128)
termination_by n
decreasing_by omega
theorem enc_small {n : Nat} (h : n ≤ 127) : enc n = [(n : Int)] := by rw [enc, dif_pos h]
theorem enc_big {n : Nat} (h : ¬ n ≤ 127) : enc n = ((128 + n % 128 : Nat) : Int) :: enc (n / 128) := by rw [enc, dif_neg h]
theorem enc_len : ∀ (L n : Nat), n < 128 ^ (L + 1) → (enc n).length ≤ L + 1
  | 0, n, h => by
    have : n ≤ 127 := by simp at h; omega
    rw [enc_small this]
    simp
  | L + 1, n, h => by
    by_cases c : n ≤ 127
    · rw [enc_small c]
      simp
    · rw [enc_big c, List.length_cons]
      have := enc_len L (n / 128) (by rw [Nat.pow_succ] at h; exact (Nat.div_lt_iff_lt_mul (by decide)).mpr h)
      omega
theorem enc_lim {n : Nat} (h : n < Lim) : (enc n).length ≤ 500 := enc_len 499 n h
theorem enc_pos (n : Nat) : 0 < (enc n).length := by
  by_cases c : n ≤ 127
  · rw [enc_small c]; simp
  · rw [enc_big c, List.length_cons]; omega
theorem enc_bytes : ∀ n : Nat, Bytes (enc n) := by
  intro n
  induction n using Nat.strongRecOn with
  | ind n ih =>
    intro b hb
    by_cases c : n ≤ 127
    · rw [enc_small c, List.mem_singleton] at hb
      omega
    · rw [enc_big c] at hb
      rcases List.mem_cons.mp hb with e | hb
      · omega
      · exact ih (n / 128) (by omega) b hb
/-- what a row holds from its begin on -/
inductive Rd where
  | num (n : Int) (len : Nat)
  | trunc
  | malf
def rdGo : Nat → Nat → Int → List Int → Rd
  | 0, _, _, _ => .malf
  | _ + 1, _, _, [] => .trunc
  | f + 1, c, acc, b :: bs => if b < 128 then (if b = 0 ∧ 0 < c then .malf else .num (acc + b * 128 ^ c) (c + 1)) else rdGo f (c + 1) (acc + (b - 128) * 128 ^ c) bs
def rd (bs : List Int) : Rd := rdGo 500 0 0 bs
theorem rd_enc : ∀ (n : Nat) (f c : Nat) (acc : Int) (rest : List Int), (enc n).length ≤ f → (c = 0 ∨ n ≠ 0) → rdGo f c acc (enc n ++ rest) = .num (acc + n * 128 ^ c) (c + (enc n).length) := by
  intro n
  induction n using Nat.strongRecOn with
  | ind n ih =>
    intro f c acc rest hl hc
    by_cases h : n ≤ 127
    · rw [enc_small h] at hl ⊢
      obtain ⟨f, rfl⟩ : ∃ g, f = g + 1 := ⟨f - 1, by simp at hl; omega⟩
      show (if (n : Int) < 128 then (if (n : Int) = 0 ∧ 0 < c then Rd.malf else .num (acc + n * 128 ^ c) (c + 1)) else _) = _
      rw [if_pos (by omega), if_neg (by omega)]
      rfl
    · rw [enc_big h] at hl ⊢
      obtain ⟨f, rfl⟩ : ∃ g, f = g + 1 := ⟨f - 1, by simp at hl; omega⟩
      show (if ((128 + n % 128 : Nat) : Int) < 128 then _ else rdGo f (c + 1) (acc + (((128 + n % 128 : Nat) : Int) - 128) * 128 ^ c) (enc (n / 128) ++ rest)) = _
      rw [if_neg (by omega), ih (n / 128) (by omega) f (c + 1) _ rest (by simp at hl; omega) (.inr (by omega)), List.length_cons]
      have e : ((n : Int)) = ((n / 128 : Nat) : Int) * 128 + ((n % 128 : Nat) : Int) := by omega
      have e1 : (((128 + n % 128 : Nat) : Int) - 128) = ((n % 128 : Nat) : Int) := by omega
      rw [e1]
      congr 1
      · rw [Int.pow_succ, Int.mul_comm (128 ^ c) 128, ← Int.mul_assoc, Int.add_assoc, ← Int.add_mul]
        congr 2
        omega
      · omega
def sp_take (K : PySem.W.Frag) (cT cM : Addr) : Sp := fun vs H Q E => ∃ (a : Addr) (bs : List Int) (i : Nat), vs = [.ref a, .int (i : Int)] ∧ SqL K H a (bs.map V.int) ∧ Bytes bs ∧ i ≤ bs.length ∧ bs.length ≤ 90000 ∧
  (∀ n c, rd (bs.drop i) = .num n c → ∀ p H', H p = none → Same H H' → H' p = some (.tup [.int n, .int ((i + c : Nat) : Int)]) → Q (.ref p) H') ∧ (rd (bs.drop i) = .trunc → E (.ref cT) none H) ∧ (rd (bs.drop i) = .malf → E (.ref cM) none H)
theorem pow128 (t : Nat) : (2 : Int) ^ (7 * t) = 128 ^ t := by rw [Int.pow_mul]; rfl
theorem and127 : V.int 127 = V.int (2 ^ 7 - 1) := by congr 1
section
variable {P : Program} {w : World} {K : PySem.W.Frag} {mg : Str → Option Value} {base : Heap}
end
def sp_put (K : PySem.W.Frag) : Sp := fun vs H Q _ => ∃ (n : Nat), vs = [.int (n : Int)] ∧ n < Lim ∧ ∀ p H', H p = none → Same H H' → H' p = some (.lst ((enc n).map V.int)) → Q (.ref p) H'
section
variable {P : Program} {w : World} {K : PySem.W.Frag} {mg : Str → Option Value} {base : Heap}
theorem ok_put_number (T : TX K mg) : FnOk P w K mg base CX0 1 T.a_put_number T.d_put_number ["number"] (sp_put K) := by
  refine T.F_put_number.ok sc_put_number (fun vs H Q E h => ?_) (fun cdv A outer s H vs Q E hr h => ?_)
  · obtain ⟨n, rfl, _⟩ := h
    rfl
  · obtain ⟨n, rfl, hn, q⟩ := h
    refine ⟨_, (pss_cons (ps_set (i := 1) sc_put_number.nd rfl (Or.inl rfl) (pe_lst pa_nil))
      (pss_cons (ps_while PassesOwn.never (pt_cmpR op_gt (pv 0) pe_int (nomark _))
        (pss_cons (ps_expr (pe_bm PySem.F.plainAttrs_list PySem.F.slot_list_append PySem.F.type_list_append mt_append (pv 1) (pa_cons (pe_op op_add pe_int (pe_op op_andM (pv 0) pe_int)) pa_nil)))
        (pss_one (ps_aug (i := 0) sc_put_number.nd rfl (Or.inl rfl) pe_int ip_shr))))
      (pss_cons (ps_expr (pe_bm PySem.F.plainAttrs_list PySem.F.slot_list_append PySem.F.type_list_append mt_append (pv 1) (pa_cons (pv 0) pa_nil)))
      (pss_one (ps_ret (pv 1)))))), ?_⟩
    have hl := enc_lim hn
    refine ⟨Nat.zero_le _, fun o ho => ?_⟩
    refine while_by (fun σ H' => ∃ (xs : List Int) (m : Nat), σ = [some (.int (m : Int)), some (.ref o)] ∧ Same H H' ∧ H' o = some (.lst (xs.map V.int)) ∧ xs ++ enc m = enc n) (fun σ _ => match σ with | some (.int m) :: _ => m.toNat | _ => 0)
      ⟨[], n, rfl, same_upd ho, upd_same, rfl⟩ ?_ (fun σ H Q Q' hq ⟨v, h1, i, j, h2, h3, k, h4, h5⟩ => ⟨v, h1, i, j, h2, h3, k, h4, hq _ _ h5⟩)
    rintro σ H' ⟨xs, m, rfl, s1, e1, hx⟩
    have hxl : xs.length ≤ 500 := by
      have := congrArg List.length hx
      rw [List.length_append] at this
      omega
    refine ⟨_, rfl, _, _, rfl, rfl, _, rfl, ifd (fun hc => ?_) (fun hc => ?_)⟩
    · have hm : ¬ m ≤ 127 := by omega
      refine ⟨_, rfl, .inl ⟨rfl, _, sql e1⟩, _, rfl, (m : Int), 7, rfl, and127, _, _, rfl, rfl, o, _, _, rfl, rfl, e1, szl (by rw [List.length_map]; omega), ?_⟩
      refine ⟨_, rfl, (m : Int), 7, rfl, rfl, ?_⟩
      have e7 : (m : Int) / 2 ^ 7 = ((m / 128 : Nat) : Int) := by rw [Int.natCast_ediv]; rfl
      have e8 : 128 + (m : Int) % 2 ^ 7 = ((128 + m % 128 : Nat) : Int) := by rw [Int.natCast_add, Int.natCast_emod]; rfl
      refine ⟨⟨xs ++ [((128 + m % 128 : Nat) : Int)], m / 128, ?_, same_put s1 ho, ?_, ?_⟩, ?_⟩
      · show [some (V.int ((m : Int) / 2 ^ 7)), _] = _
        rw [e7]
      · rw [upd_same, List.map_append]
        show some (HO.lst (xs.map V.int ++ [V.int (128 + (m : Int) % 2 ^ 7)])) = _
        rw [e8]
        rfl
      · rw [List.append_assoc, ← hx, enc_big hm]
        rfl
      · show ((m : Int) / 2 ^ 7).toNat < ((m : Int)).toNat
        rw [e7]
        omega
    · have hm : m ≤ 127 := by omega
      rw [enc_small hm] at hx
      refine ⟨_, rfl, .inl ⟨rfl, _, sql e1⟩, _, rfl, o, _, _, rfl, rfl, e1, szl (by rw [List.length_map]; omega), ?_⟩
      refine ⟨_, rfl, q o _ ho (same_put s1 ho) ?_⟩
      rw [upd_same, ← hx, List.map_append]
      rfl
end
def plainC (c : Nat) : Bool := !(decide (c < 32) || decide (126 < c) || decide (c = 37))
def plainS (z : Str) : Bool := z.cps.toList.all plainC
theorem zlen (z : Str) : z.length = z.cps.toList.length := by show z.cps.size = _; simp
theorem str_ext {a b : Str} (h : a.cps.toList = b.cps.toList) : a = b := by
  cases a; cases b
  simp only [Str.mk.injEq]
  exact Array.toList_inj.mp h
def sp_str (f : Str → Bool) : Sp := fun vs H Q _ => ∃ z, vs = [.str z] ∧ z.length ≤ 100000 ∧ Q (.bl (f z)) H
theorem all_take {α : Type} {l : List α} {i : Nat} {x : α} {f : α → Bool} (h : l[i]? = some x) : (l.take (i + 1)).all f = ((l.take i).all f && f x) := by
  rw [take_more h, List.all_append]
  simp
theorem cps_at {z : Str} {i c : Nat} (h : z.cps[i]? = some c) : z.cps.toList[i]? = some c := by simpa using h
theorem sizeL (z : Str) : z.cps.size = z.cps.toList.length := by simp
theorem sign_inj {a b : Nat} (h : (⟨#[a]⟩ : Str) = ⟨#[b]⟩) : a = b := by
  injection h with h
  injection h with h
  injection h with h
section
variable {P : Program} {w : World} {K : PySem.W.Frag} {mg : Str → Option Value} {base : Heap}
theorem ok_has_plain_characters (T : TX K mg) : FnOk P w K mg base CX0 1 T.a_has_plain_characters T.d_has_plain_characters ["text"] (sp_str plainS) := by
  refine T.F_has_plain_characters.ok sc_has_plain_characters (fun vs H Q E h => ?_) (fun cdv A outer s H vs Q E hr h => ?_)
  · obtain ⟨z, rfl, _⟩ := h
    rfl
  · obtain ⟨z, rfl, hz, q⟩ := h
    refine ⟨_, (pss_cons (ps_for PassesOwn.never rfl (pi_str (pv 0)) (pg_name (i := 1) sc_has_plain_characters.nd rfl (Or.inl rfl))
        (pss_cons (ps_set (i := 2) sc_has_plain_characters.nd rfl (Or.inl rfl) (pe_callB call_ord (by rfl) T.n_ord (by decide +kernel) (pa_cons (pv 1) pa_nil)))
        (pss_one (ps_if (PW.pt (pw_or (pt_cmpR op_lt (pv 2) (pe_glob (v := .int 32) (by rfl) T.c_SPACE ⟨_, rfl⟩) (nomark _)) (pw_or (pt_cmpR op_gt (pv 2) (pe_glob (v := .int 126) (by rfl) T.c_TILDE ⟨_, rfl⟩) (nomark _)) (pw_or1 (pt_cmpR op_eq (pv 2) (pe_glob (v := .int 37) (by rfl) T.c_PERCENT ⟨_, rfl⟩) (nomark _)))))) (pss_one (ps_ret pe_bl)) pss_nil))))
      (pss_one (ps_ret pe_bl))), ?_⟩
    refine ⟨_, rfl, z, rfl, for_it walk_str (fun i σ H2 => H = H2 ∧ (z.cps.toList.take i).all plainC = true ∧ ∃ x1 x2, σ = [some (.str z), x1, x2]) ⟨rfl, rfl, none, none, rfl⟩ (fun _ _ _ _ _ => trivial) ?_ ?_⟩
    · rintro i x σ _ _ hi ⟨rfl, ha, x1, x2, rfl⟩ ⟨rfl, c, hc, rfl⟩
      have hm := all_take (f := plainC) (cps_at hc)
      rw [ha, Bool.true_and] at hm
      have hno : plainC c = false → plainS z = false := fun h => by
        unfold plainS
        rw [List.all_eq_false]
        exact ⟨c, List.mem_of_getElem? (cps_at hc), by rw [h]; simp⟩
      refine ⟨_, rfl, _, rfl, rfl, _, rfl, _, _, rfl, rfl, _, rfl, ifd (fun h1 => ?_) (fun h1 => ?_)⟩
      · refine (if_pos rfl).mpr ?_
        have : plainC c = false := by
          unfold plainC
          have h1' : (c : Int) < 32 := h1
          simp [show c < 32 by omega]
        rw [hno this] at q
        exact q
      · refine ⟨_, rfl, _, _, rfl, rfl, _, rfl, ifd (fun h2 => ?_) (fun h2 => ?_)⟩
        · refine (if_pos rfl).mpr ?_
          have : plainC c = false := by
            unfold plainC
            have h2' : (126 : Int) < (c : Int) := h2
            simp [show 126 < c by omega]
          rw [hno this] at q
          exact q
        · refine ⟨_, rfl, rfl, _, rfl, ifd (fun h3 => ?_) (fun h3 => ?_)⟩
          · have h3' : ((c : Nat) : Int) = 37 := V.int.inj h3
            have : plainC c = false := by
              unfold plainC
              simp [show c = 37 by omega]
            rw [hno this] at q
            exact q
          · have h3' : ¬ ((c : Nat) : Int) = 37 := fun z => h3 (by show V.int _ = V.int _; rw [← z]; rfl)
            have h1' : ¬ (c : Int) < 32 := h1
            have h2' : ¬ (126 : Int) < (c : Int) := h2
            refine ⟨rfl, ?_, _, _, rfl⟩
            rw [hm]
            unfold plainC
            simp only [Bool.not_eq_true', Bool.or_eq_false_iff, decide_eq_false_iff_not]
            omega
    · rintro σ _ ⟨rfl, ha, x1, x2, rfl⟩
      rw [sizeL, List.take_length] at ha
      have : plainS z = true := ha
      rw [this] at q
      exact q
end
/-! values: the mirror -/
mutual
def pkL : PyData → List Int
  | .none => [0]
  | .bool b => [if b = true then 2 else 1]
  | .int i => if i < 0 then 4 :: enc (-1 - i).toNat else 3 :: enc i.toNat
  | .str x => 5 :: (enc x.length ++ x.cps.toList.map fun (c : Nat) => (c : Int) - 32)
  | .tuple ds => 6 :: (enc ds.length ++ pkA ds)
  | _ => []
def pkA : List PyData → List Int
  | [] => []
  | d :: ds => pkL d ++ pkA ds
end
def bitsOk (i : Int) : Bool := decide (Builtin.Int.intBits i ≤ 3000)
/-! a value, n tuples deep at most -/
mutual
def okV : Nat → PyData → Bool
  | _, .none => true
  | _, .bool _ => true
  | _, .int i => bitsOk i
  | _, .str x => decide (x.length ≤ 60000) && plainS x
  | n + 1, .tuple ds => decide (ds.length ≤ 60000) && okA n ds
  | _, _ => false
def okA : Nat → List PyData → Bool
  | _, [] => true
  | n, d :: ds => okV n d && okA n ds
end
/-! what is asked of a thing that is looked at: its texts and tuples are no longer than a line -/
mutual
def fits : PyData → Bool
  | .str x => decide (x.length ≤ 90000)
  | .tuple ds => decide (ds.length ≤ 90000) && fitsA ds
  | .list _ => true
  | .dict _ => false
  | _ => true
def fitsA : List PyData → Bool
  | [] => true
  | d :: ds => fits d && fitsA ds
end
theorem okA_at {n : Nat} : ∀ {ds : List PyData} {i : Nat} {d : PyData}, okA n ds = true → ds[i]? = some d → okV n d = true
  | [], i, _, _, h => by simp at h
  | d :: ds, 0, _, h, e => by
    simp only [List.getElem?_cons_zero, Option.some.injEq] at e
    subst e
    exact (Bool.and_eq_true_iff.mp (show (okV n d && okA n ds) = true by simpa [okA] using h)).1
  | d :: ds, i + 1, _, h, e => okA_at (i := i) ((Bool.and_eq_true_iff.mp (show (okV n d && okA n ds) = true by simpa [okA] using h)).2) (by simpa using e)
theorem okA_take {n i : Nat} : ∀ {ds : List PyData} {d : PyData}, ds[i]? = some d → okA n (ds.take (i + 1)) = (okA n (ds.take i) && okV n d) := by
  induction i with
  | zero =>
    intro ds d h
    cases ds with
    | nil => simp at h
    | cons e ds =>
      simp only [List.getElem?_cons_zero, Option.some.injEq] at h
      subst h
      simp [okA]
  | succ i ih =>
    intro ds d h
    cases ds with
    | nil => simp at h
    | cons e ds =>
      simp only [List.getElem?_cons_succ] at h
      rw [List.take_succ_cons, List.take_succ_cons]
      show (okV n e && okA n (ds.take (i + 1))) = ((okV n e && okA n (ds.take i)) && okV n d)
      rw [ih h, Bool.and_assoc]
theorem okA_no {n i : Nat} {ds : List PyData} {d : PyData} (h : ds[i]? = some d) (hd : okV n d = false) : okA n ds = false := by
  cases e : okA n ds with
  | false => rfl
  | true => rw [okA_at e h] at hd; cases hd
theorem fitsA_at : ∀ {ds : List PyData} {i : Nat} {d : PyData}, fitsA ds = true → ds[i]? = some d → fits d = true
  | [], i, _, _, h => by simp at h
  | d :: ds, 0, _, h, e => by
    simp only [List.getElem?_cons_zero, Option.some.injEq] at e
    subst e
    exact (Bool.and_eq_true_iff.mp (show (fits d && fitsA ds) = true by simpa [fitsA] using h)).1
  | d :: ds, i + 1, _, h, e => fitsA_at (i := i) ((Bool.and_eq_true_iff.mp (show (fits d && fitsA ds) = true by simpa [fitsA] using h)).2) (by simpa using e)
theorem pkA_take {i : Nat} : ∀ {ds : List PyData} {d : PyData}, ds[i]? = some d → pkA (ds.take (i + 1)) = pkA (ds.take i) ++ pkL d := by
  induction i with
  | zero =>
    intro ds d h
    cases ds with
    | nil => simp at h
    | cons e ds =>
      simp only [List.getElem?_cons_zero, Option.some.injEq] at h
      subst h
      simp [pkA]
  | succ i ih =>
    intro ds d h
    cases ds with
    | nil => simp at h
    | cons e ds =>
      simp only [List.getElem?_cons_succ] at h
      rw [List.take_succ_cons, List.take_succ_cons]
      show pkL e ++ pkA (ds.take (i + 1)) = (pkL e ++ pkA (ds.take i)) ++ pkL d
      rw [ih h, List.append_assoc]
theorem pkA_pre {i : Nat} : ∀ {ds : List PyData}, (pkA (ds.take i)).length ≤ (pkA ds).length := fun {ds} => by
  induction ds generalizing i with
  | nil => simp
  | cons d ds ih =>
    cases i with
    | zero => simp [pkA]
    | succ i =>
      rw [List.take_succ_cons]
      show (pkL d ++ pkA (ds.take i)).length ≤ (pkL d ++ pkA ds).length
      rw [List.length_append, List.length_append]
      have := ih (i := i)
      omega
theorem pkL_at {i : Nat} {ds : List PyData} {d : PyData} (h : ds[i]? = some d) : (pkA (ds.take i)).length + (pkL d).length ≤ (pkA ds).length := by
  have := pkA_pre (i := i + 1) (ds := ds)
  rw [pkA_take h, List.length_append] at this
  exact this
/-! isinstance of data -/
def kindOf : PyData → String
  | .none => "NoneType"
  | .bool _ => "bool"
  | .int _ => "int"
  | .str _ => "str"
  | .list _ => "list"
  | .tuple _ => "tuple"
  | .dict _ => "dict"
theorem dp_tyx {K : PySem.W.Frag} {H : Hp} {v : V} {d : PyData} (h : Dp K H v d) : TyX K H v (.type (kindOf d)) := by
  cases h with
  | non => exact .base .non
  | bl b => exact .base (.bl b)
  | int i => exact .base (.int i)
  | str x => exact .base (.str x)
  | lst h _ => exact tyx_l h
  | tup h _ => exact tyx_t h
def isK (k t : String) : Bool := k == t || (k == "bool" && t == "int")
def kinds6 : List String := ["NoneType", "bool", "int", "str", "list", "tuple"]
theorem kind_in (d : PyData) : kindOf d = "dict" ∨ kindOf d ∈ kinds6 := by
  cases d <;> first | exact .inl rfl | exact .inr (by unfold kindOf kinds6; simp)
theorem kit_all : ∀ k ∈ kinds6, ∀ t ∈ ["bool", "int", "str", "tuple", "list"], kitB k t = some (isK k t) := by decide +kernel
theorem dp_nodict {K : PySem.W.Frag} {H : Hp} {v : V} {d : PyData} (h : Dp K H v d) : kindOf d ∈ kinds6 := by
  cases h <;> (unfold kindOf kinds6; simp)
theorem isi_d {K : PySem.W.Frag} {H : Hp} {v : V} {d : PyData} {t : String} {Q : VK} (h : Dp K H v d) (ht : t ∈ ["bool", "int", "str", "tuple", "list"]) (q : Q (.bl (isK (kindOf d) t)) H) : rIsi K [v, .ty t] H Q :=
  ⟨v, .ty t, .type (kindOf d), .type t, isK (kindOf d) t, rfl, .ty _, dp_tyx h, kit_ty (kit_all _ (dp_nodict h) _ ht), q⟩
theorem tisi {K : PySem.W.Frag} {σ : L2.St} {H : Hp} {Q : Bool → Hp → Prop} {i : Nat} {v : V} {d : PyData} {t : String} (hv : σ[i]? = some (some v)) (hd : Dp K H v d) (q : Q (isK (kindOf d) t) H) (ht : t ∈ ["bool", "int", "str", "tuple", "list"] := by simp) :
    tB (tCB (rIsi K) (tCons (tVar i) (tCons (tC (.ty t)) tNil))) σ H Q := ⟨v, hv, (isi_d hd ht ⟨_, rfl, q⟩ : rIsi K [v, .ty t] H (fun x H1 => ∃ c, x = .bl c ∧ Q c H1))⟩
theorem okV_non (n : Nat) : okV n .none = true := by cases n <;> simp [okV]
theorem okV_bl (n : Nat) (b : Bool) : okV n (.bool b) = true := by cases n <;> simp [okV]
theorem okV_int (n : Nat) (i : Int) : okV n (.int i) = decide (((Builtin.Int.intBits i : Nat) : Int) ≤ 3000) := by
  have : okV n (.int i) = bitsOk i := by cases n <;> simp [okV]
  rw [this]
  unfold bitsOk
  rw [decide_eq_decide]
  omega
theorem okV_str (n : Nat) (x : Str) : okV n (.str x) = (decide (((x.length : Nat) : Int) ≤ 60000) && plainS x) := by
  have : okV n (.str x) = (decide (x.length ≤ 60000) && plainS x) := by cases n <;> simp [okV]
  rw [this]
  congr 1
  rw [decide_eq_decide]
  omega
theorem okV_lst (n : Nat) (ds : List PyData) : okV n (.list ds) = false := by cases n <;> simp [okV]
theorem okV_tup0 (ds : List PyData) : okV 0 (.tuple ds) = false := by simp [okV]
theorem okV_tup (n : Nat) (ds : List PyData) : okV (n + 1) (.tuple ds) = (decide (ds.length ≤ 60000) && okA n ds) := by simp [okV]
theorem fits_tup {ds : List PyData} (h : fits (.tuple ds) = true) : ds.length ≤ 90000 ∧ fitsA ds = true := by
  simp only [fits, Bool.and_eq_true, decide_eq_true_eq] at h
  exact h
theorem fits_str {x : Str} (h : fits (.str x) = true) : x.length ≤ 90000 := by
  simp only [fits, decide_eq_true_eq] at h
  exact h
end My
namespace HotE
open PySem PySem.Spec PyProof.Rows HotX
section
variable {prog : Program} {w : World} {A : Around} {E : Value → Shared → Prop} {s : Shared} {x1 : Addr}
theorem tup_end {it t : Addr} {i : Nat} {its : Array Value} {Q : Option Value → Shared → Prop} (hot : HotAt A x1 s.heap) (hne : it ≠ x1) (hit : s.heap.IsTupleIter it t i) (ht : s.heap.IsTuple t its) (hx : its[i]? = none)
    (hQ : ∀ h', Heap.ExtBut it s.heap h' → Q none { s with heap := h' }) : wpAny (model prog w) A (pyNext (.ref it)) Q E s := by
  obtain ⟨o, ho, hc, hd⟩ := id hit
  obtain ⟨ol, hol, _, nl, hdl⟩ := ht
  obtain ⟨hh, o1, vs1, h1, d1, c1⟩ := hot
  unfold pyNext
  refine wpAny_bind (wpAny_attempt (wpAny_callSpecial?_slot (name := Str.ofString "__next__") hit.typeIs F.slot_tuple_iterator_next (wpAny_call_entry F.slot_tuple_iterator_next hit.typeIs F.entry_tuple_iterator_next ?_ (F.args_tuple_iterator_next_1 _))))
  show wpAny _ _ (field (.ref it) 0 >>= _) _ _ s
  refine wpAny_bind (wpAny_field ho hd (x := .ref t) rfl ?_)
  show wpAny _ _ (if (Value.ref t == Value.none) = true then _ else _) _ _ s
  rw [if_neg (show ¬ ((Value.ref t == Value.none) = true) from nofun)]
  show wpAny _ _ (field (.ref it) 1 >>= _) _ _ s
  refine wpAny_bind (wpAny_field ho hd (x := .int i 0) rfl ?_)
  show wpAny _ _ (seqItems? (.ref t) >>= _) _ _ s
  refine wpAny_bind (wpAny_seqItems hol hdl ?_)
  simp only [Int.toNat_natCast, hx]
  refine wpAny_bind (wpAny_rule (wpAny_bind (wpAny_setField ho hd (by simp) ?_)))
  have h1 := (Heap.get?_update_other s.heap (Obj.mapFields (·.setIfInBounds 0 Value.none)) hne).trans h1
  show wpAny _ _ (newExc (.type "StopIteration") [] >>= _) _ _ _
  refine wpAny_bind ?_
  simp only [newExc, newTuple]
  refine wpAny_bind (wpAny_newObj_type ?_ (by size_fits))
  refine wpAny_bind (m := firstArgMember _ _) (wpAny_of_eq (a := Value.none) (by first | rfl | (simp only [firstArgMember]; rfl)) ?_)
  refine wpAny_newObj_type ?_ (by size_fits)
  refine raiseNew_hot ⟨hh, _, _, Heap.get?_push_of_some _ (Heap.get?_push_of_some _ h1), d1, c1⟩ (Nat.ne_of_lt (Heap.lt_size (Heap.get?_push_of_some _ h1))) (Heap.get?_push_size _ rfl) rfl (by first | (simp; done) | (simp; omega)) ?_
  refine wpAny_bind (wpAny_isInstance (T := "StopIteration") (b := true) ⟨_, Heap.get?_update_self _ (Heap.get?_push_size _ rfl) rfl, rfl⟩ isSubtype_stop ?_)
  refine wpAny_pure (hQ _ fun b o ne e => ?_)
  rw [Heap.get?_update_other _ _ (Nat.ne_of_gt (Heap.lt_size (Heap.get?_push_of_some _ ((Heap.get?_update_other _ _ (Ne.symm ne)).trans e))))]
  exact Heap.get?_push_of_some _ (Heap.get?_push_of_some _ ((Heap.get?_update_other _ _ (Ne.symm ne)).trans e))
theorem str_end {it : Addr} {x : Str} {t : Tok} {i : Nat} {ty : String} {Q : Option Value → Shared → Prop} (hty : ty = "str_ascii_iterator" ∨ ty = "str_iterator") (hot : HotAt A x1 s.heap) (hne : it ≠ x1) (hit : s.heap.IsStrIter it ty x t i) (hx : x.cps[i]? = none)
    (hQ : ∀ h', Heap.ExtBut it s.heap h' → Q none { s with heap := h' }) : wpAny (model prog w) A (pyNext (.ref it)) Q E s := by
  obtain ⟨o, ho, hc, hd⟩ := id hit
  obtain ⟨hh, o1, vs1, h1, d1, c1⟩ := hot
  have h1 := (Heap.get?_update_other s.heap (Obj.mapFields (·.setIfInBounds 0 Value.none)) hne).trans h1
  unfold pyNext
  rcases hty with e | e
  · rw [e] at hit
    refine wpAny_bind (wpAny_attempt (wpAny_callSpecial?_slot (name := Str.ofString "__next__") hit.typeIs F.slot_str_ascii_iterator_next (wpAny_call_entry F.slot_str_ascii_iterator_next hit.typeIs F.entry_str_ascii_iterator_next ?_ (F.args_str_ascii_iterator_next_1 _))))
    refine (show wpAny _ _ (field (.ref it) 0 >>= _) _ _ s from wpAny_bind (wpAny_field ho hd (x := .str x t) rfl ?_))
    refine (show wpAny _ _ (field (.ref it) 1 >>= _) _ _ s from wpAny_bind (wpAny_field ho hd (x := .int i 0) rfl ?_))
    simp only [Int.toNat_natCast, hx]
    refine wpAny_bind (wpAny_rule (wpAny_bind (wpAny_setField ho hd (by simp) (wpAny_bind (wpAny_letGo ?_)))))
    show wpAny _ _ (newExc (.type "StopIteration") [] >>= _) _ _ _
    refine wpAny_bind ?_
    simp only [newExc, newTuple]
    refine wpAny_bind (wpAny_newObj_type ?_ (by size_fits))
    refine wpAny_bind (m := firstArgMember _ _) (wpAny_of_eq (a := Value.none) (by first | rfl | (simp only [firstArgMember]; rfl)) ?_)
    refine wpAny_newObj_type ?_ (by size_fits)
    refine raiseNew_hot ⟨hh, _, _, Heap.get?_push_of_some _ (Heap.get?_push_of_some _ h1), d1, c1⟩ (Nat.ne_of_lt (Heap.lt_size (Heap.get?_push_of_some _ h1))) (Heap.get?_push_size _ rfl) rfl (by first | (simp; done) | (simp; omega)) ?_
    refine wpAny_bind (wpAny_isInstance (T := "StopIteration") (b := true) ⟨_, Heap.get?_update_self _ (Heap.get?_push_size _ rfl) rfl, rfl⟩ isSubtype_stop ?_)
    refine wpAny_pure (hQ _ fun b o ne e => ?_)
    rw [Heap.get?_update_other _ _ (Nat.ne_of_gt (Heap.lt_size (Heap.get?_push_of_some _ ((Heap.get?_update_other _ _ (Ne.symm ne)).trans e))))]
    exact Heap.get?_push_of_some _ (Heap.get?_push_of_some _ ((Heap.get?_update_other _ _ (Ne.symm ne)).trans e))
  · rw [e] at hit
    refine wpAny_bind (wpAny_attempt (wpAny_callSpecial?_slot (name := Str.ofString "__next__") hit.typeIs F.slot_str_iterator_next (wpAny_call_entry F.slot_str_iterator_next hit.typeIs F.entry_str_iterator_next ?_ (F.args_str_iterator_next_1 _))))
    refine (show wpAny _ _ (field (.ref it) 0 >>= _) _ _ s from wpAny_bind (wpAny_field ho hd (x := .str x t) rfl ?_))
    refine (show wpAny _ _ (field (.ref it) 1 >>= _) _ _ s from wpAny_bind (wpAny_field ho hd (x := .int i 0) rfl ?_))
    simp only [Int.toNat_natCast, hx]
    refine wpAny_bind (wpAny_rule (wpAny_bind (wpAny_setField ho hd (by simp) (wpAny_bind (wpAny_letGo ?_)))))
    show wpAny _ _ (newExc (.type "StopIteration") [] >>= _) _ _ _
    refine wpAny_bind ?_
    simp only [newExc, newTuple]
    refine wpAny_bind (wpAny_newObj_type ?_ (by size_fits))
    refine wpAny_bind (m := firstArgMember _ _) (wpAny_of_eq (a := Value.none) (by first | rfl | (simp only [firstArgMember]; rfl)) ?_)
    refine wpAny_newObj_type ?_ (by size_fits)
    refine raiseNew_hot ⟨hh, _, _, Heap.get?_push_of_some _ (Heap.get?_push_of_some _ h1), d1, c1⟩ (Nat.ne_of_lt (Heap.lt_size (Heap.get?_push_of_some _ h1))) (Heap.get?_push_size _ rfl) rfl (by first | (simp; done) | (simp; omega)) ?_
    refine wpAny_bind (wpAny_isInstance (T := "StopIteration") (b := true) ⟨_, Heap.get?_update_self _ (Heap.get?_push_size _ rfl) rfl, rfl⟩ isSubtype_stop ?_)
    refine wpAny_pure (hQ _ fun b o ne e => ?_)
    rw [Heap.get?_update_other _ _ (Nat.ne_of_gt (Heap.lt_size (Heap.get?_push_of_some _ ((Heap.get?_update_other _ _ (Ne.symm ne)).trans e))))]
    exact Heap.get?_push_of_some _ (Heap.get?_push_of_some _ ((Heap.get?_update_other _ _ (Ne.symm ne)).trans e))
end
end HotE
namespace HotE
open PySem PySem.Spec PyProof.Rows L2 HotX L2H
theorem hotC_at {X : Cx} {pins : List (Addr × Obj)} {σ : L2.St} {H : Hp} {s : Shared} {it : Addr} (c : HotC X) (I : Inv X pins σ H s) (f : FpOk X pins H it) : ∃ x1, it ≠ x1 ∧ HotAt X.A x1 s.heap := by
  obtain ⟨p, ⟨hh, v1, e1, c1⟩, hp⟩ := c
  exact ⟨p.1, fun z => f.2.2.2.2.2 p (List.mem_append_left _ hp) z.symm, hh, p.2, v1, (I.pin p (List.mem_append_left _ hp)).1, e1, c1⟩
theorem turn_tupH {P : Program} {w : World} {K : PySem.W.Frag} {tg : Expr} (a it : Addr) : TurnH P w K tg (Itt K a) [it] it (fun i h => h.IsTupleIter it a i) := by
  refine ⟨by simp, fun i h st b hb => ?_, fun i h h' st k => st.at fun o e => k it (by simp) o e, ?_, ?_, fun _ _ _ _ _ st h => wpAny_pyIter_tupleiter st h⟩
  · obtain rfl : b = it := by simpa using hb
    obtain ⟨o, e, c, d⟩ := st
    exact ⟨o, e, fun v z => by rw [d] at z; cases z⟩
  · rintro X rfl rfl rfl hc i pins s σ H E I hf st ⟨xs, x, hq, hx⟩
    obtain ⟨its, rv, p, hz⟩ := I.tuple hq
    obtain ⟨u, hu, ru⟩ := rv.get hx
    have f := hf it (by simp)
    refine wpAny_pyNext_tuple_item (t := a) (items := its.toArray) st p (x := u) (by simpa using hu) fun h' st' sb => ?_
    obtain ⟨o, e, c, d⟩ := id st'
    refine ⟨u, rfl, go_of (s := { s with heap := h' }) e c d (by decide) ⟨x, H, I.turned (t' := s.toks) (fun b o hb e => (sb.2 b hb).trans e) f.1 f.2.1 f.2.2.2.1 f.2.2.2.2.1 f.2.2.2.2.2, ru, ⟨rfl, fun ys hy => ?_⟩, st', fun b hb => (hf b hb).1⟩⟩
    rw [I.tuple_inj hy hq]
    exact hx
  · rintro X rfl rfl rfl hc i pins s σ H E I hf st ⟨xs, hq, hx⟩
    obtain ⟨its, rv, p, hz⟩ := I.tuple hq
    have f := hf it (by simp)
    have hl := rv.length
    obtain ⟨x1, ne, hot⟩ := hotC_at hc I f
    exact tup_end (t := a) (its := its.toArray) hot ne st p (by simp; omega) fun h' eb => ⟨rfl, I.turned (t' := s.toks) (fun b o hb e => eb b o hb e) f.1 f.2.1 f.2.2.2.1 f.2.2.2.2.1 f.2.2.2.2.2⟩
theorem turn_strH {P : Program} {w : World} {K : PySem.W.Frag} {tg : Expr} (it : Addr) (x : Str) (t : Tok) (ty : String) (hty : ty = "str_ascii_iterator" ∨ ty = "str_iterator") : TurnH P w K tg (Its x) [it] it (fun i h => h.IsStrIter it ty x t i) := by
  refine ⟨by simp, fun i h st b hb => ?_, fun i h h' st k => let ⟨o, ho, r⟩ := st; ⟨o, k it (by simp) o ho, r⟩, ?_, ?_, fun A i s Q E st h => ?_⟩
  · obtain rfl : b = it := by simpa using hb
    obtain ⟨o, e, c, d⟩ := st
    exact ⟨o, e, fun v z => by rw [d] at z; cases z⟩
  · rintro X rfl rfl rfl hc i pins s σ H E I hf st hg
    have f := hf it (by simp)
    have hg : i < x.cps.size := hg
    have hx : x.cps[i]? = some x.cps[i] := Array.getElem?_eq_getElem hg
    have fin : ∀ h', h'.IsStrIter it ty x t (i + 1) → Heap.SameBut it s.heap h' → ∃ u, some (Value.str ⟨#[x.cps[i]]⟩ s.toks) = some u ∧ wpAny (model X.prog X.w) X.A (letOwnedTupleGo tg (.ref it) u) (fun _ s2 => ∃ v H', Inv X pins σ H' s2 ∧ RelV v u ∧ (Its x).yld i H v H' ∧ s2.heap.IsStrIter it ty x t (i + 1) ∧ ∀ b ∈ [it], H' b = none) E { s with heap := h', toks := s.toks + 1 } := fun h' st' sb => by
      obtain ⟨o, e, c, d⟩ := id st'
      refine ⟨_, rfl, go_of (s := { s with heap := h', toks := s.toks + 1 }) e c d ?_ ⟨.str ⟨#[x.cps[i]]⟩, H, I.turned (t' := s.toks + 1) (fun b o hb e => (sb.2 b hb).trans e) f.1 f.2.1 f.2.2.2.1 f.2.2.2.2.1 f.2.2.2.2.2, ⟨_, rfl⟩, ⟨rfl, _, hx, rfl⟩, st', fun b hb => (hf b hb).1⟩⟩
      rcases hty with z | z <;> rw [z] <;> decide
    rcases hty with rfl | rfl
    · exact wpAny_pyNext_ascii_item st hx fin
    · exact wpAny_pyNext_wide_item st hx fin
  · rintro X rfl rfl rfl hc i pins s σ H E I hf st hg
    have f := hf it (by simp)
    obtain ⟨x1, ne, hot⟩ := hotC_at hc I f
    exact str_end hty hot ne st (Array.getElem?_eq_none hg) fun h' eb => ⟨rfl, I.turned (t' := s.toks) (fun b o hb e => eb b o hb e) f.1 f.2.1 f.2.2.2.1 f.2.2.2.2.1 f.2.2.2.2.2⟩
  · rcases hty with z | z
    · rw [z] at st
      exact wpAny_pyIter_striter_ascii st h
    · rw [z] at st
      exact wpAny_pyIter_striter_wide st h
section
variable {X : Cx} {tg : Expr}
theorem pi_oneH {pins : List (Addr × Obj)} {σ : L2.St} {H : Hp} {s : Shared} {R : It → Hp → Prop} {J : It} {tn : Nat → Heap → Prop} {tk : Nat} (I : Inv X pins σ H s) (o : Obj) (T : TurnH X.prog X.w X.K tg J [s.heap.objs.size] s.heap.objs.size tn) (st : tn 0 (s.heap.push o)) (q : R J H) :
    PIEH X pins σ tg R (.ref s.heap.objs.size) { s with heap := s.heap.push o, toks := tk } := by
  refine ⟨_, [s.heap.objs.size], tn, J, H, rfl, I.kept fun b ob e => Heap.get?_push_of_some _ e, T, st, fun b hb => ?_, q⟩
  obtain rfl : b = s.heap.objs.size := by simpa using hb
  exact I.fpOk (Nat.le_refl _) (I.hok.fresh (Nat.le_refl _))
theorem pi_strH {e : Expr} {te : TE} (he : PE X e te) : PIH X tg e (iStr te) := by
  refine ⟨fun pins s σ H R I h => thn (he.run pins s σ H _ I h) fun v s1 ⟨y, H1, I1, r1, x, ex, q⟩ => ?_⟩
  subst ex
  obtain ⟨t, rfl⟩ := r1
  cases ha : x.cps.all (· < 128) with
  | false => exact wpAny_pyIter_wide ha (pi_oneH (tk := s1.toks) I1 _ (turn_strH _ x t "str_iterator" (.inr rfl)) ⟨_, Heap.get?_push_size _ rfl, rfl, rfl⟩ q)
  | true => exact wpAny_pyIter_ascii ha (pi_oneH (tk := s1.toks) I1 _ (turn_strH _ x t "str_ascii_iterator" (.inl rfl)) ⟨_, Heap.get?_push_size _ rfl, rfl, rfl⟩ q)
theorem pi_tupH {l : Expr} {tl : TE} (hl : PE X l tl) : PIH X tg l (iTup X.K tl) := by
  refine ⟨fun pins s σ H R I h => thn (hl.run pins s σ H _ I h) fun v s1 ⟨x, H1, I1, r1, a, e, ⟨xs, hq⟩, q⟩ => ?_⟩
  subst e
  cases r1
  obtain ⟨its, rv, p, hz⟩ := I1.tuple hq
  exact wpAny_pyIter_tuple (t := a) (items := its.toArray) p (pi_oneH (tk := s1.toks) I1 _ (turn_tupH a _) ⟨_, Heap.get?_push_size _ rfl, rfl, rfl⟩ q)
end
/-! ### a def of the text, called where an exception is handled -/
theorem passH {X : Cx} (σ : L2.St) : PassesAt CX0 X σ E0 := fun _ _ _ _ _ _ h => h.elim
section
variable {P : Program} {w : World} {K : PySem.W.Frag} {mg : Str → Option Value} {base : Heap}
theorem okH {x qual : Str} {st : Stmt} {f : Addr} {fd : FuncData} {N ps : List Str} {k : Nat} {sp : Sp} (F : Fun K x qual st f fd) (S : FnScope N ps (defScope st)) (len : ∀ vs H Q E, sp vs H Q E → vs.length = ps.length)
    (hb : ∀ (cdv : Value) (A : Around) (outer : List Env) (s : Shared) (H : Hp) (vs : List V) (Q : VK) (E : XK) (p : Addr × Obj), HotC (cxH CX0 P w K mg base N qual (defScope st) f cdv A outer s H E p).nox → RoomH k (A.deeper (envOfC qual (defScope st) s.heap.objs.size f cdv)) → sp vs H Q E →
      ∃ t, PSs (cxH CX0 P w K mg base N qual (defScope st) f cdv A outer s H E p).nox (defBody st) t ∧ t { nx := fun _ H' => Q .non H', rt := Q } (start N vs) H) : FnH P w K mg base CX0 (k + 1) f fd ps sp := by
  obtain ⟨oc, od, kV, doc, pm, an, cdv, ct, osl, rfl, lk, hcd⟩ := F.ex
  refine fn_ofH lk hcd S len fun A outer s H vs Q E p hot hr hsp => ?_
  obtain ⟨t, h, q⟩ := hb cdv A outer s H vs Q E p ⟨p, hot, List.mem_singleton_self p⟩ hr hsp
  exact ⟨t, h.nox, q⟩
end
end HotE
namespace HotE
open PySem PySem.Spec PyProof.Rows L2 HotX L2H
/-- around a body nothing is let out (contexts told) -/
theorem takesN {X : Cx} : L2N.Takes X (fun _ _ _ _ => False) := fun _ _ x => by
  obtain ⟨_, _, _, _, _, _, _, _, _, _, _, _, _, _, _, _, z⟩ := x
  exact z.elim
theorem passN {X : Cx} : Passes (L2N.CX X.prog X.w) X E0 := fun _ _ _ _ _ _ _ h => by
  obtain ⟨_, _, _, _, _, _, _, _, _, _, _, _, z⟩ := h
  exact z.elim
section
variable {P : Program} {w : World} {K : PySem.W.Frag} {mg : Str → Option Value} {base : Heap}
theorem okN {x qual : Str} {st : Stmt} {f : Addr} {fd : FuncData} {N ps : List Str} {k : Nat} {sp : Sp} (F : Fun K x qual st f fd) (S : FnScope N ps (defScope st)) (len : ∀ vs H Q E, sp vs H Q E → vs.length = ps.length)
    (hb : ∀ (cdv : Value) (A : Around) (outer : List Env) (s : Shared) (H : Hp) (vs : List V) (Q : VK) (E : XK), Room k (A.deeper (envOfC qual (defScope st) s.heap.objs.size f cdv)) → sp vs H Q E →
      ∃ t, PSs (cxOf (L2N.CX P w) P w K mg base N qual (defScope st) f cdv A outer s H E) (defBody st) t ∧ t { nx := fun _ H' => Q .non H', rt := Q } (start N vs) H) : FnOk P w K mg base (L2N.CX P w) (k + 1) f fd ps sp := by
  obtain ⟨oc, od, kV, doc, pm, an, cdv, ct, osl, rfl, lk, hcd⟩ := F.ex
  exact fn_of lk hcd S len fun A outer s H vs Q E hr hsp => hb cdv A outer s H vs Q E hr hsp
end
theorem hotS {X : Cx} {a : Addr} {oe : Obj} {cls : Value} {d : Option Addr} {pn : List (Addr × Obj)} (hz : L2N.Zn cls d oe) (hf : ∃ vs, oe.data = .fields vs) : HotC (X.suite a ((a, oe) :: pn)) := by
  obtain ⟨vs, e⟩ := hf
  exact ⟨(a, oe), ⟨rfl, vs, e, hz.2.2 vs e⟩, List.mem_cons_self⟩
theorem roomS {X : Cx} {a : Addr} {pn : List (Addr × Obj)} {k : Nat} (r : Room k X.A) : RoomH k (X.suite a pn).A := ⟨r.dp, r.un⟩
end HotE
namespace My
open PySem PySem.Spec PyProof.Rows L2
/-! # things: values, and lists and dicts, which are none -/
mutual
inductive Dx (K : PySem.W.Frag) (H : Hp) : V → PyData → Prop
  | non : Dx K H .non .none
  | bl (b : Bool) : Dx K H (.bl b) (.bool b)
  | int (i : Int) : Dx K H (.int i) (.int i)
  | str (x : Str) : Dx K H (.str x) (.str x)
  | lst {a : Addr} {xs : List V} : H a = some (.lst xs) → Dx K H (.ref a) (.list [])
  | dic {a : Addr} {kvs : List (Key × V)} : H a = some (.dK kvs) → Dx K H (.ref a) (.list [])
  | tup {a : Addr} {xs : List V} {ds : List PyData} : H a = some (.tup xs) → DxAll K H xs ds → Dx K H (.ref a) (.tuple ds)
inductive DxAll (K : PySem.W.Frag) (H : Hp) : List V → List PyData → Prop
  | nil : DxAll K H [] []
  | cons {v : V} {vs : List V} {d : PyData} {ds : List PyData} : Dx K H v d → DxAll K H vs ds → DxAll K H (v :: vs) (d :: ds)
end
mutual
theorem dx_same {K : PySem.W.Frag} {H H' : Hp} (e : Same H H') : ∀ (d : PyData) {v : V}, Dx K H v d → Dx K H' v d
  | _, _, .non => .non
  | _, _, .bl b => .bl b
  | _, _, .int i => .int i
  | _, _, .str x => .str x
  | _, _, .lst h => .lst (e _ _ h)
  | _, _, .dic h => .dic (e _ _ h)
  | .tuple ds, _, .tup h a => .tup (e _ _ h) (dxa_same e ds a)
theorem dxa_same {K : PySem.W.Frag} {H H' : Hp} (e : Same H H') : ∀ (ds : List PyData) {vs : List V}, DxAll K H vs ds → DxAll K H' vs ds
  | [], _, .nil => .nil
  | d :: ds, _, .cons h a => .cons (dx_same e d h) (dxa_same e ds a)
end
theorem dxa_len {K : PySem.W.Frag} {H : Hp} : ∀ {vs : List V} {ds : List PyData}, DxAll K H vs ds → vs.length = ds.length
  | _, _, .nil => rfl
  | _, _, .cons _ a => by rw [List.length_cons, List.length_cons, dxa_len a]
theorem dxa_at {K : PySem.W.Frag} {H : Hp} : ∀ {vs : List V} {ds : List PyData} {i : Nat} {v : V}, DxAll K H vs ds → vs[i]? = some v → ∃ d, ds[i]? = some d ∧ Dx K H v d
  | _, _, _, _, .nil, h => by simp at h
  | _, _, 0, _, .cons h _, e => ⟨_, rfl, by have := Option.some.inj e; subst this; exact h⟩
  | _, _, i + 1, _, .cons _ a, e => dxa_at (i := i) a (by simpa using e)
mutual
theorem dx_dp {K : PySem.W.Frag} {H : Hp} : ∀ (n : Nat) (d : PyData) {v : V}, Dx K H v d → okV n d = true → Dp K H v d
  | _, _, _, .non, _ => .non
  | _, _, _, .bl b, _ => .bl b
  | _, _, _, .int i, _ => .int i
  | _, _, _, .str x, _ => .str x
  | _, _, _, .lst h, e => by rw [okV_lst] at e; cases e
  | _, _, _, .dic h, e => by rw [okV_lst] at e; cases e
  | 0, .tuple ds, _, .tup h a, e => by rw [okV_tup0] at e; cases e
  | n + 1, .tuple ds, _, .tup h a, e => by
    rw [okV_tup, Bool.and_eq_true] at e
    exact .tup (sqt h) (dxa_dp n ds a e.2)
theorem dxa_dp {K : PySem.W.Frag} {H : Hp} : ∀ (n : Nat) (ds : List PyData) {vs : List V}, DxAll K H vs ds → okA n ds = true → DpAll K H vs ds
  | _, [], _, .nil, _ => .nil
  | n, d :: ds, _, .cons h a, e => by
    have e2 : (okV n d && okA n ds) = true := by simpa [okA] using e
    rw [Bool.and_eq_true] at e2
    exact .cons (dx_dp n d h e2.1) (dxa_dp n ds a e2.2)
end
theorem kit_dic : ∀ t ∈ ["bool", "int", "str", "tuple"], kitB "dict" t = some false ∧ isK "list" t = false := by decide +kernel
theorem isi_x {K : PySem.W.Frag} {H : Hp} {v : V} {d : PyData} {t : String} {Q : VK} (h : Dx K H v d) (ht : t ∈ ["bool", "int", "str", "tuple"]) (q : Q (.bl (isK (kindOf d) t)) H) : rIsi K [v, .ty t] H Q := by
  have ht2 : t ∈ ["bool", "int", "str", "tuple", "list"] := by
    simp only [List.mem_cons, List.not_mem_nil, or_false] at ht ⊢
    rcases ht with h | h | h | h <;> simp [h]
  have k6 : ∀ {d : PyData}, kindOf d ∈ kinds6 → kitB (kindOf d) t = some (isK (kindOf d) t) := fun h => kit_all _ h _ ht2
  cases h with
  | non => exact ⟨_, .ty t, .type (kindOf .none), .type t, _, rfl, .ty _, .base .non, kit_ty (k6 (d := .none) (by decide)), q⟩
  | bl b => exact ⟨_, .ty t, .type (kindOf (.bool b)), .type t, _, rfl, .ty _, .base (.bl b), kit_ty (k6 (d := .bool b) (by simp [kindOf, kinds6])), q⟩
  | int i => exact ⟨_, .ty t, .type (kindOf (.int i)), .type t, _, rfl, .ty _, .base (.int i), kit_ty (k6 (d := .int i) (by simp [kindOf, kinds6])), q⟩
  | str x => exact ⟨_, .ty t, .type (kindOf (.str x)), .type t, _, rfl, .ty _, .base (.str x), kit_ty (k6 (d := .str x) (by simp [kindOf, kinds6])), q⟩
  | lst h => exact ⟨_, .ty t, .type (kindOf (.list [])), .type t, _, rfl, .ty _, .base (.lst h), kit_ty (k6 (d := .list []) (by simp [kindOf, kinds6])), q⟩
  | dic h =>
    obtain ⟨k1, k2⟩ := kit_dic t ht
    refine ⟨_, .ty t, .type "dict", .type t, false, rfl, .ty _, .base (.dK h), kit_ty k1, ?_⟩
    have : isK (kindOf (.list [])) t = false := k2
    rw [this] at q
    exact q
  | tup h a => exact ⟨_, .ty t, .type (kindOf (.tuple _)), .type t, _, rfl, .ty _, .base (.tup h), kit_ty (k6 (d := .tuple _) (by simp [kindOf, kinds6])), q⟩
theorem tisix {K : PySem.W.Frag} {σ : L2.St} {H : Hp} {Q : Bool → Hp → Prop} {i : Nat} {v : V} {d : PyData} {t : String} (hv : σ[i]? = some (some v)) (hd : Dx K H v d) (q : Q (isK (kindOf d) t) H) (ht : t ∈ ["bool", "int", "str", "tuple"] := by simp) :
    tB (tCB (rIsi K) (tCons (tVar i) (tCons (tC (.ty t)) tNil))) σ H Q := ⟨v, hv, (isi_x hd ht ⟨_, rfl, q⟩ : rIsi K [v, .ty t] H (fun x H1 => ∃ c, x = .bl c ∧ Q c H1))⟩
def spW (K : PySem.W.Frag) : Nat → Sp
  | 0 => fun _ _ _ _ => False
  | n + 1 => fun vs H Q _ => ∃ (v : V) (d : PyData), vs = [v, .int (20 - (n : Int))] ∧ n ≤ 20 ∧ Dx K H v d ∧ fits d = true ∧ Q (.bl (okV n d)) H
def sp_isv (K : PySem.W.Frag) : Sp := fun vs H Q _ => ∃ (v : V) (d : PyData), vs = [v] ∧ Dx K H v d ∧ fits d = true ∧ Q (.bl (okV 20 d)) H
section
variable {P : Program} {w : World} {K : PySem.W.Frag} {mg : Str → Option Value} {base : Heap}
theorem okn__is_value_within (T : TX K mg) : ∀ n : Nat, FnOk P w K mg base CX0 (n + 1) T.a__is_value_within T.d__is_value_within ["value", "depth"] (spW K n) := by
  intro n
  induction n with
  | zero => exact T.F__is_value_within.ok sc__is_value_within (fun vs H Q E h => h.elim) (fun cdv A outer s H vs Q E hr h => h.elim)
  | succ n ih__is_value_within =>
    refine T.F__is_value_within.ok sc__is_value_within (fun vs H Q E h => ?_) (fun cdv A outer s H vs Q E hr h => ?_)
    · obtain ⟨v, d, rfl, _⟩ := h
      rfl
    · obtain ⟨v, d, rfl, hn, hd, hf, q⟩ := h
      refine ⟨_, (pss_cons (ps_if (PW.pt (pw_or (pt_cmpR op_isN (pv 0) pe_non (nomark _)) (pw_or1 (pt_val (pe_callB call_isi (by rfl) T.n_isinstance (by decide +kernel) (pa_cons (pv 0) (pa_cons (pe_bltn (v := .ty "bool") (u := .type "bool") (by rfl) T.n_bool (by decide +kernel) rfl) pa_nil))))))) (pss_one (ps_ret pe_bl)) pss_nil)
      (pss_cons (ps_if (pt_val (pe_callB call_isi (by rfl) T.n_isinstance (by decide +kernel) (pa_cons (pv 0) (pa_cons (pe_bltn (v := .ty "int") (u := .type "int") (by rfl) T.n_int (by decide +kernel) rfl) pa_nil)))) (pss_one (ps_ret (pe_cmpR op_le (pe_bits (pv 0)) (pe_glob (v := .int 3000) (by rfl) T.c_MOST_BITS ⟨_, rfl⟩) (nomark _)))) pss_nil)
      (pss_cons (ps_if (pt_val (pe_callB call_isi (by rfl) T.n_isinstance (by decide +kernel) (pa_cons (pv 0) (pa_cons (pe_bltn (v := .ty "str") (u := .type "str") (by rfl) T.n_str (by decide +kernel) rfl) pa_nil)))) (pss_one (ps_ret (pe_and (pe_cmpR op_le (pe_callB call_len (by rfl) T.n_len PySem.boot_len (pa_cons (pv 0) pa_nil)) (pe_glob (v := .int 60000) (by rfl) T.c_MOST_LENGTH ⟨_, rfl⟩) (nomark _)) (pe_one (pe_call (ok_has_plain_characters T) (hr.mono (by omega)) (by rfl) T.g_has_plain_characters T.F_has_plain_characters.kp T.b_has_plain_characters .nil pass0 (pa_cons (pv 0) pa_nil)))))) pss_nil)
      (pss_cons (ps_if (PW.pt (pw_or (pt_not (pt_val (pe_callB call_isi (by rfl) T.n_isinstance (by decide +kernel) (pa_cons (pv 0) (pa_cons (pe_bltn (v := .ty "tuple") (u := .type "tuple") (by rfl) T.n_tuple (by decide +kernel) rfl) pa_nil))))) (pw_or (pt_cmpR op_eq (pv 1) (pe_glob (v := .int 20) (by rfl) T.c_MOST_DEPTH ⟨_, rfl⟩) (nomark _)) (pw_or1 (pt_cmpR op_gt (pe_callB call_len (by rfl) T.n_len PySem.boot_len (pa_cons (pv 0) pa_nil)) (pe_glob (v := .int 60000) (by rfl) T.c_MOST_LENGTH ⟨_, rfl⟩) (nomark _)))))) (pss_one (ps_ret pe_bl)) pss_nil)
      (pss_cons (ps_for PassesOwn.never rfl (pi_tup (pv 0)) (pg_name (i := 2) sc__is_value_within.nd rfl (Or.inl rfl))
        (pss_one (ps_if (pt_not (pt_val (pe_call ih__is_value_within (hr.mono (by omega)) (by rfl) T.g__is_value_within T.F__is_value_within.kp T.b__is_value_within .nil pass0 (pa_cons (pv 2) (pa_cons (pe_op op_add (pv 1) pe_int) pa_nil))))) (pss_one (ps_ret pe_bl)) pss_nil)))
      (pss_one (ps_ret pe_bl))))))), ?_⟩
      dsimp only [tNext, tSeq, tIfS]
      refine or_use (x := decide (v = .non)) (y := isK (kindOf d) "bool") (fun R r => ⟨_, rfl, rfl, _, rfl, r⟩) (fun R r => tisix rfl hd r) ?_
      cases hd with
      | non =>
        rw [okV_non] at q
        exact ifbt rfl q
      | bl b =>
        rw [okV_bl] at q
        exact ifbt rfl q
      | int i =>
        rw [okV_int] at q
        refine ifbf rfl (tisix rfl (.int i) (ifbt rfl ?_))
        exact ⟨_, rfl, i, rfl, _, _, rfl, rfl, q⟩
      | str x =>
        rw [okV_str] at q
        have hx := fits_str hf
        refine ifbf rfl (tisix rfl (.str x) (ifbf rfl (tisix rfl (.str x) (ifbt rfl ?_))))
        refine ⟨_, rfl, _, _, rfl, ⟨sz (by omega), rfl⟩, _, _, rfl, rfl, _, rfl, ?_⟩
        by_cases hc : ((x.length : Nat) : Int) ≤ 60000
        · rw [decide_eq_true hc, Bool.true_and] at q
          exact ift hc ⟨_, rfl, x, rfl, by omega, q⟩
        · rw [decide_eq_false hc, Bool.false_and] at q
          exact iff0 hc q
      | lst h =>
        rw [okV_lst] at q
        refine ifbf rfl (tisix rfl (.lst h) (ifbf rfl (tisix rfl (.lst h) (ifbf rfl ?_))))
        exact tisix rfl (.lst h) ((if_pos rfl).mpr (ifbt rfl q))
      | dic h =>
        rw [okV_lst] at q
        refine ifbf rfl (tisix rfl (.dic h) (ifbf rfl (tisix rfl (.dic h) (ifbf rfl ?_))))
        exact tisix rfl (.dic h) ((if_pos rfl).mpr (ifbt rfl q))
      | @tup p xs ds h0 a =>
        have h := sqt (K := K) h0
        obtain ⟨hl, hfa⟩ := fits_tup hf
        have hxl := dxa_len a
        refine ifbf rfl (tisix rfl (.tup h0 a) (ifbf rfl (tisix rfl (.tup h0 a) (ifbf rfl ?_))))
        refine or_use (x := false) (y := decide (n = 0) || decide ((ds.length : Int) > 60000)) (fun R r => tisix rfl (.tup h0 a) r) (fun R r => or_use (x := decide (n = 0)) (y := decide ((ds.length : Int) > 60000)) (fun R r => ⟨_, rfl, rfl, _, rfl, ?_⟩) (fun R r => ⟨_, rfl, _, _, rfl, .inr ⟨_, h, rfl⟩, _, _, rfl, rfl, _, rfl, ?_⟩) r) ?_
        · by_cases e : n = 0
          · rw [decide_eq_true e] at r
            rw [decide_eq_true (by rw [e]; rfl)]
            exact r
          · rw [decide_eq_false e] at r
            rw [decide_eq_false (fun z => e (by have := V.int.inj z; omega))]
            exact r
        · rw [hxl]
          exact r
        cases n with
        | zero =>
          rw [okV_tup0] at q
          exact ifbt rfl q
        | succ m =>
          rw [okV_tup] at q
          have e20 : (20 : Int) - ((m + 1 : Nat) : Int) + 1 = 20 - (m : Int) := by omega
          by_cases hl2 : ds.length ≤ 60000
          · rw [decide_eq_true hl2, Bool.true_and] at q
            refine ifbf (by simp; omega) ?_
            refine ⟨_, rfl, p, rfl, ⟨_, h⟩, for_tup (K := K) (a := p) (xs := xs) (fun i σ G => H = G ∧ okA m (ds.take i) = true ∧ ∃ x2, σ = [some (.ref p), some (.int (20 - ((m + 1 : Nat) : Int))), x2]) ⟨rfl, by simp [okA], none, rfl⟩ (fun i σ G _ ⟨e, _⟩ => by rw [← e]; exact h) ?_ ?_⟩
            · rintro i x σ _ hx ⟨rfl, hok, x2, rfl⟩
              obtain ⟨d, hdi, hdx⟩ := dxa_at a hx
              refine ⟨_, rfl, _, rfl, _, _, rfl, rfl, x, d, congrArg (fun z => [x, V.int z]) e20, by omega, hdx, fitsA_at hfa hdi, _, rfl, ?_⟩
              cases ed : okV m d with
              | true => exact ifbf rfl ⟨rfl, by rw [okA_take hdi, hok, ed]; rfl, _, rfl⟩
              | false =>
                rw [okA_no hdi ed] at q
                exact ifbt rfl q
            · rintro σ _ ⟨rfl, hok, x2, rfl⟩
              rw [hxl, List.take_length] at hok
              rw [hok] at q
              exact q
          · rw [decide_eq_false hl2, Bool.false_and] at q
            exact ifbt (by simp; omega) q
theorem ok__is_value_within (T : TX K mg) : FnOk P w K mg base CX0 (22) T.a__is_value_within T.d__is_value_within ["value", "depth"] (spW K 21) := okn__is_value_within T 21
theorem ok_is_value (T : TX K mg) : FnOk P w K mg base CX0 23 T.a_is_value T.d_is_value ["value"] (sp_isv K) := by
  refine T.F_is_value.ok sc_is_value (fun vs H Q E h => ?_) (fun cdv A outer s H vs Q E hr h => ?_)
  · obtain ⟨v, d, rfl, _⟩ := h
    rfl
  · obtain ⟨v, d, rfl, hd, hf, q⟩ := h
    refine ⟨_, (pss_one (ps_ret (pe_call (ok__is_value_within T) (hr.mono (by decide)) (by rfl) T.g__is_value_within T.F__is_value_within.kp T.b__is_value_within .nil pass0 (pa_cons (pv 0) (pa_cons pe_int pa_nil))))), ?_⟩
    exact ⟨_, rfl, v, d, rfl, by decide, hd, hf, q⟩
end
theorem bits_lt {i : Int} (h : ((Builtin.Int.intBits i : Nat) : Int) ≤ 3000) : i.natAbs < Lim := by
  unfold Builtin.Int.intBits at h
  have hL : 2 ^ 3000 ≤ Lim := by
    have : Lim = 2 ^ 3500 := by
      unfold Lim
      rw [show (128 : Nat) = 2 ^ 7 by decide, ← Nat.pow_mul]
    rw [this]
    exact Nat.pow_le_pow_right (by decide) (by decide)
  by_cases h0 : i = 0
  · rw [h0]
    exact Nat.lt_of_lt_of_le (Nat.pow_pos (by decide)) hL
  · have hb : (i == 0) = false := by simpa using h0
    rw [hb] at h
    simp only [Bool.false_eq_true, if_false] at h
    have h1 : i.natAbs.log2 < 3000 := by omega
    exact Nat.lt_of_lt_of_le ((Nat.log2_lt (by omega)).mp h1) hL
theorem enc_small_lim {n : Nat} (h : n ≤ 90000) : n < Lim := Nat.lt_of_le_of_lt h (by
  have : (2 : Nat) ^ 17 ≤ Lim := by
    have : Lim = 2 ^ 3500 := by
      unfold Lim
      rw [show (128 : Nat) = 2 ^ 7 by decide, ← Nat.pow_mul]
    rw [this]
    exact Nat.pow_le_pow_right (by decide) (by decide)
  exact Nat.lt_of_lt_of_le (by decide) this)
def spP (K : PySem.W.Frag) : Nat → Sp
  | 0 => fun _ _ _ _ => False
  | n + 1 => fun vs H Q _ => ∃ (v : V) (d : PyData), vs = [v] ∧ Dp K H v d ∧ okV n d = true ∧ (pkL d).length ≤ 90000 ∧ ∀ p H', H p = none → Same H H' → H' p = some (.lst ((pkL d).map V.int)) → Q (.ref p) H'
theorem none_of {H G : Hp} {p : Addr} (s : Same H G) (h : G p = none) : H p = none := by
  cases e : H p with
  | none => rfl
  | some o => rw [s _ _ e] at h; cases h
/-- a list that is made of a list's head and more -/
theorem cat_new {H : Hp} {a b : Addr} {xs ys : List V} {Q : VK} (ha : H a = some (.lst xs)) (hb : H b = some (.lst ys)) (hl : xs.length + ys.length ≤ 100000) (q : ∀ p, H p = none → Q (.ref p) (upd H p (.lst (xs ++ ys)))) : rCat (.ref a) (.ref b) H Q := ⟨a, b, xs, ys, rfl, rfl, ha, hb, sz hl, q⟩
section
variable {P : Program} {w : World} {K : PySem.W.Frag} {mg : Str → Option Value} {base : Heap}
theorem okn__packed (T : TX K mg) : ∀ n : Nat, FnOk P w K mg base CX0 (n + 1) T.a__packed T.d__packed ["value"] (spP K n) := by
  intro n
  induction n with
  | zero => exact T.F__packed.ok sc__packed (fun vs H Q E h => h.elim) (fun cdv A outer s H vs Q E hr h => h.elim)
  | succ n ih__packed =>
    refine T.F__packed.ok sc__packed (fun vs H Q E h => ?_) (fun cdv A outer s H vs Q E hr h => ?_)
    · obtain ⟨v, d, rfl, _⟩ := h
      rfl
    · obtain ⟨v, d, rfl, hd, hok, hl, q⟩ := h
      refine ⟨_, (pss_cons (ps_if (pt_cmpR op_isN (pv 0) pe_non (nomark _)) (pss_one (ps_ret (pe_lst (pa_cons pe_int pa_nil)))) pss_nil)
      (pss_cons (ps_if (pt_val (pe_callB call_isi (by rfl) T.n_isinstance (by decide +kernel) (pa_cons (pv 0) (pa_cons (pe_bltn (v := .ty "bool") (u := .type "bool") (by rfl) T.n_bool (by decide +kernel) rfl) pa_nil)))) (pss_one (ps_ret (pe_lst (pa_cons (pe_ifExp (pt_val (pv 0)) (pe_glob (v := .int 2) (by rfl) T.c_TRUE_TAG ⟨_, rfl⟩) (pe_glob (v := .int 1) (by rfl) T.c_FALSE_TAG ⟨_, rfl⟩)) pa_nil)))) pss_nil)
      (pss_cons (ps_if (pt_val (pe_callB call_isi (by rfl) T.n_isinstance (by decide +kernel) (pa_cons (pv 0) (pa_cons (pe_bltn (v := .ty "int") (u := .type "int") (by rfl) T.n_int (by decide +kernel) rfl) pa_nil)))) (pss_cons (ps_if (pt_cmpR op_lt (pv 0) pe_int (nomark _)) (pss_one (ps_ret (pe_op op_cat (pe_lst (pa_cons (pe_glob (v := .int 4) (by rfl) T.c_NEGATIVE_TAG ⟨_, rfl⟩) pa_nil)) (pe_call (ok_put_number T) (hr.mono (by omega)) (by rfl) T.g_put_number T.F_put_number.kp T.b_put_number .nil pass0 (pa_cons (pe_op op_sub (pe_un un_neg pe_int) (pv 0)) pa_nil))))) pss_nil)
        (pss_one (ps_ret (pe_op op_cat (pe_lst (pa_cons (pe_glob (v := .int 3) (by rfl) T.c_NATURAL_TAG ⟨_, rfl⟩) pa_nil)) (pe_call (ok_put_number T) (hr.mono (by omega)) (by rfl) T.g_put_number T.F_put_number.kp T.b_put_number .nil pass0 (pa_cons (pv 0) pa_nil)))))) pss_nil)
      (pss_cons (ps_if (pt_val (pe_callB call_isi (by rfl) T.n_isinstance (by decide +kernel) (pa_cons (pv 0) (pa_cons (pe_bltn (v := .ty "str") (u := .type "str") (by rfl) T.n_str (by decide +kernel) rfl) pa_nil)))) (pss_one (ps_ret (pe_op op_cat (pe_op op_cat (pe_lst (pa_cons (pe_glob (v := .int 5) (by rfl) T.c_TEXT_TAG ⟨_, rfl⟩) pa_nil)) (pe_call (ok_put_number T) (hr.mono (by omega)) (by rfl) T.g_put_number T.F_put_number.kp T.b_put_number .nil pass0 (pa_cons (pe_callB call_len (by rfl) T.n_len PySem.boot_len (pa_cons (pv 0) pa_nil)) pa_nil))) (pe_lc (own := [("character", 3)]) (g := gName 3) (tt := tYes) (by rfl) sc__packed.nd (pi_str (pv 0)) (blkOk_by (own := [("character", 3)]) (N := ["value", "row", "member", "character"]) (sc := defScope s__packed) (by decide +kernel)) (fun _ _ _ _ _ => pg_name (i := 3) sc__packed.nd rfl (Or.inl rfl)) (fun _ _ _ _ _ => pts_nil) (fun _ _ _ _ _ => (pe_op op_sub (pe_callB call_ord (by rfl) T.n_ord (by decide +kernel) (pa_cons (pv 3) pa_nil)) (pe_glob (v := .int 32) (by rfl) T.c_SPACE ⟨_, rfl⟩))))))) pss_nil)
      (pss_cons (ps_set (i := 1) sc__packed.nd rfl (Or.inl rfl) (pe_op op_cat (pe_lst (pa_cons (pe_glob (v := .int 6) (by rfl) T.c_TUPLE_TAG ⟨_, rfl⟩) pa_nil)) (pe_call (ok_put_number T) (hr.mono (by omega)) (by rfl) T.g_put_number T.F_put_number.kp T.b_put_number .nil pass0 (pa_cons (pe_callB call_len (by rfl) T.n_len PySem.boot_len (pa_cons (pv 0) pa_nil)) pa_nil))))
      (pss_cons (ps_for PassesOwn.never rfl (pi_tup (pv 0)) (pg_name (i := 2) sc__packed.nd rfl (Or.inl rfl))
        (pss_one (ps_expr (pe_bm PySem.F.plainAttrs_list PySem.F.slot_list_extend PySem.F.type_list_extend mt_extend (pv 1) (pa_cons (pe_call ih__packed (hr.mono (by omega)) (by rfl) T.g__packed T.F__packed.kp T.b__packed .nil pass0 (pa_cons (pv 2) pa_nil)) pa_nil)))))
      (pss_one (ps_ret (pv 1))))))))), ?_⟩
      refine ⟨_, rfl, rfl, _, rfl, ?_⟩
      cases hd with
      | non =>
        refine ifbt rfl ⟨(by show 1 ≤ sizeLine; decide), fun p hp => q p _ hp (same_upd hp) ?_⟩
        rw [upd_same]; rfl
      | bl b =>
        refine ifbf rfl (tisi rfl (.bl b) (ifbt rfl ?_))
        refine ⟨_, rfl, b, rfl, ?_⟩
        cases b with
        | true =>
          refine (if_pos rfl).mpr ⟨(by show 1 ≤ sizeLine; decide), fun p hp => q p _ hp (same_upd hp) ?_⟩
          rw [upd_same]; rfl
        | false =>
          refine (if_neg (by decide)).mpr ⟨(by show 1 ≤ sizeLine; decide), fun p hp => q p _ hp (same_upd hp) ?_⟩
          rw [upd_same]; rfl
      | int i =>
        rw [okV_int] at hok
        have hb := bits_lt (of_decide_eq_true hok)
        refine ifbf rfl (tisi rfl (.int i) (ifbf rfl (tisi rfl (.int i) (ifbt rfl ?_))))
        refine ⟨_, rfl, _, _, rfl, rfl, _, rfl, ifd (fun hn => ?_) (fun hn => ?_)⟩
        · refine ⟨(by show 1 ≤ sizeLine; decide), fun a ha => ?_⟩
          have s1 := same_upd (o := .lst [.int 4]) ha
          refine ⟨1, rfl, _, rfl, _, _, rfl, rfl, (-1 - i).toNat, congrArg (fun z => [V.int z]) (by omega), by omega, fun b G hbn s2 eb => ?_⟩
          have ea := s2 _ _ (upd_same (H := H) (a := a) (o := .lst [.int 4]))
          have hel := enc_lim (show (-1 - i).toNat < Lim by omega)
          refine cat_new ea eb (by rw [List.length_map]; simp only [List.length_cons, List.length_nil]; omega) fun p hp => q p _ ?_ ((s1.trans s2).trans (same_upd hp)) ?_
          · exact none_of (s1.trans s2) hp
          · rw [upd_same]
            have : pkL (.int i) = 4 :: enc (-1 - i).toNat := by simp [pkL, hn]
            rw [this]
            rfl
        · refine ⟨(by show 1 ≤ sizeLine; decide), fun a ha => ?_⟩
          have s1 := same_upd (o := .lst [.int 3]) ha
          refine ⟨_, rfl, i.toNat, congrArg (fun z => [V.int z]) (by omega), by omega, fun b G hbn s2 eb => ?_⟩
          have ea := s2 _ _ (upd_same (H := H) (a := a) (o := .lst [.int 3]))
          have hel := enc_lim (show i.toNat < Lim by omega)
          refine cat_new ea eb (by rw [List.length_map]; simp only [List.length_cons, List.length_nil]; omega) fun p hp => q p _ (none_of (s1.trans s2) hp) ((s1.trans s2).trans (same_upd hp)) ?_
          rw [upd_same]
          have : pkL (.int i) = 3 :: enc i.toNat := by simp [pkL, hn]
          rw [this]
          rfl
      | str x =>
        rw [okV_str] at hok
        obtain ⟨hx1, hx2⟩ := Bool.and_eq_true_iff.mp hok
        have hx : x.length ≤ 60000 := by have := of_decide_eq_true hx1; omega
        refine ifbf rfl (tisi rfl (.str x) (ifbf rfl (tisi rfl (.str x) (ifbf rfl (tisi rfl (.str x) (ifbt rfl ?_))))))
        refine ⟨(by show 1 ≤ sizeLine; decide), fun a ha => ?_⟩
        have s1 := same_upd (o := .lst [.int 5]) ha
        refine ⟨_, rfl, _, _, rfl, ⟨sz (by omega), rfl⟩, x.length, rfl, enc_small_lim (by omega), fun b G hbn s2 eb => ?_⟩
        have ea := s2 _ _ (upd_same (H := H) (a := a) (o := .lst [.int 5]))
        have hel := enc_lim (enc_small_lim (show x.length ≤ 90000 by omega))
        refine cat_new ea eb (by rw [List.length_map]; simp only [List.length_cons, List.length_nil]; omega) fun p hp => ?_
        have s3 := (s1.trans s2).trans (same_upd (o := .lst ([V.int 5] ++ (enc x.length).map V.int)) hp)
        have ep : (upd G p (.lst ([V.int 5] ++ (enc x.length).map V.int))) p = some (.lst ([V.int 5] ++ (enc x.length).map V.int)) := upd_same
        generalize upd G p (.lst ([V.int 5] ++ (enc x.length).map V.int)) = G1 at s3 ep
        refine ⟨_, rfl, x, rfl, fun D hD => ?_⟩
        refine lc_it walk_str (fun i G => Same G1 G ∧ G D = some (.lst (((x.cps.toList.take i).map fun (c : Nat) => (c : Int) - 32).map V.int))) ⟨same_upd hD, upd_same⟩ (fun _ _ _ _ => trivial) ?_ ?_
        · rintro i y G2 G3 hi ⟨s4, e4⟩ ⟨rfl, c, hc, rfl⟩
          refine ⟨rfl, ?_⟩
          dsimp only [tYes]
          refine (if_pos rfl).mpr ?_
          have hxl : x.cps.toList.length ≤ 60000 := by rw [← zlen]; exact hx
          refine ⟨_, rfl, _, rfl, rfl, _, _, rfl, rfl, _, e4, szl (by rw [List.length_map, List.length_map, List.length_take]; omega), same_put s4 hD, ?_⟩
          rw [upd_same, take_more (cps_at hc), List.map_append, List.map_append]
          rfl
        · rintro G2 ⟨s4, e4⟩
          rw [sizeL, List.take_length] at e4
          have hxl : x.cps.toList.length ≤ 60000 := by rw [← zlen]; exact hx
          refine cat_new (s4 _ _ ep) e4 (by simp only [List.length_map, List.length_append, List.length_cons, List.length_nil]; omega) fun p2 hp2 => q p2 _ (none_of (s3.trans s4) hp2) ((s3.trans s4).trans (same_upd hp2)) ?_
          rw [upd_same]
          simp [pkL]
      | lst h a => rw [okV_lst] at hok; cases hok
      | @tup p xs ds h a =>
        cases n with
        | zero => rw [okV_tup0] at hok; cases hok
        | succ m =>
          rw [okV_tup] at hok
          obtain ⟨hl1, hoa⟩ := Bool.and_eq_true_iff.mp hok
          have hdl : ds.length ≤ 60000 := of_decide_eq_true hl1
          have hxl := dpa_len a
          have hpk : pkL (.tuple ds) = 6 :: (enc ds.length ++ pkA ds) := by simp [pkL]
          rw [hpk] at hl q
          have hl2 : (pkA ds).length + (enc ds.length).length + 1 ≤ 90000 := by
            simp only [List.length_cons, List.length_append] at hl
            omega
          refine ifbf rfl (tisi rfl (.tup h a) (ifbf rfl (tisi rfl (.tup h a) (ifbf rfl (tisi rfl (.tup h a) (ifbf rfl ?_))))))
          refine ⟨(by show 1 ≤ sizeLine; decide), fun a1 ha => ?_⟩
          have s1 := same_upd (o := .lst [.int 6]) ha
          refine ⟨_, rfl, _, _, rfl, .inr ⟨_, sqt_same s1 h, rfl⟩, ds.length, by rw [hxl]; rfl, enc_small_lim (by omega), fun b G hbn s2 eb => ?_⟩
          have ea := s2 _ _ (upd_same (H := H) (a := a1) (o := .lst [.int 6]))
          have hel := enc_lim (enc_small_lim (show ds.length ≤ 90000 by omega))
          refine cat_new ea eb (by rw [List.length_map]; simp only [List.length_cons, List.length_nil]; omega) fun r hr1 => ?_
          have s3 := (s1.trans s2).trans (same_upd (o := .lst ([V.int 6] ++ (enc ds.length).map V.int)) hr1)
          have er : (upd G r (.lst ([V.int 6] ++ (enc ds.length).map V.int))) r = some (.lst ((6 :: enc ds.length).map V.int)) := upd_same
          have hrH := none_of (s1.trans s2) hr1
          generalize upd G r (.lst ([V.int 6] ++ (enc ds.length).map V.int)) = G1 at s3 er
          refine ⟨_, rfl, p, rfl, ⟨_, sqt_same s3 h⟩, for_tup (K := K) (a := p) (xs := xs) (fun i σ G => ∃ x2, σ = [some (.ref p), some (.ref r), x2, none] ∧ Same H G ∧ G r = some (.lst (((6 :: enc ds.length) ++ pkA (ds.take i)).map V.int))) ⟨none, rfl, s3, by rw [er]; simp [pkA]⟩ (fun i σ G _ ⟨_, _, s, _⟩ => sqt_same s h) ?_ ?_⟩
          · rintro i x σ G2 hx ⟨x2, rfl, s4, e4⟩
            obtain ⟨d, hdi, hdx⟩ := dpa_at a hx
            have hat := pkL_at hdi
            refine ⟨_, rfl, .inl ⟨rfl, _, sql e4⟩, _, rfl, x, d, rfl, dp_same s4 _ hdx, okA_at hoa hdi, by omega, fun b2 G3 hb2 s5 e5 => ?_⟩
            have e6 := s5 _ _ e4
            refine ⟨r, b2, _, _, rfl, rfl, e6, e5, sz (by simp only [List.length_map, List.length_append, List.length_cons]; omega), ?_⟩
            refine ⟨_, rfl, same_put (s4.trans s5) hrH, ?_⟩
            rw [upd_same, pkA_take hdi, ← List.map_append, List.append_assoc]
          · rintro σ G2 ⟨x2, rfl, s4, e4⟩
            rw [hxl, List.take_length] at e4
            exact ⟨_, rfl, q r G2 hrH s4 (by rw [e4]; rfl)⟩
theorem ok__packed (T : TX K mg) : FnOk P w K mg base CX0 (22) T.a__packed T.d__packed ["value"] (spP K 21) := okn__packed T 21
end
end My
namespace My
open PySem PySem.Spec PyProof.Rows L2
section
variable {P : Program} {w : World} {K : PySem.W.Frag} {mg : Str → Option Value} {base : Heap}
theorem okH_has_plain_characters (T : TX K mg) : L2H.FnH P w K mg base CX0 1 T.a_has_plain_characters T.d_has_plain_characters ["text"] (sp_str plainS) := by
  refine HotE.okH T.F_has_plain_characters sc_has_plain_characters (fun vs H Q E h => ?_) (fun cdv A outer s H vs Q E p hc hr h => ?_)
  · obtain ⟨z, rfl, _⟩ := h
    rfl
  · obtain ⟨z, rfl, hz, q⟩ := h
    refine ⟨_, (pss_cons (L2H.ps_forH PassesOwn.never hc (HotE.pi_strH (pv 0)) (pg_name (i := 1) sc_has_plain_characters.nd rfl (Or.inl rfl))
        (pss_cons (ps_set (i := 2) sc_has_plain_characters.nd rfl (Or.inl rfl) (pe_callB call_ord (by rfl) T.n_ord (by decide +kernel) (pa_cons (pv 1) pa_nil)))
        (pss_one (ps_if (PW.pt (pw_or (pt_cmpR op_lt (pv 2) (pe_glob (v := .int 32) (by rfl) T.c_SPACE ⟨_, rfl⟩) (nomark _)) (pw_or (pt_cmpR op_gt (pv 2) (pe_glob (v := .int 126) (by rfl) T.c_TILDE ⟨_, rfl⟩) (nomark _)) (pw_or1 (pt_cmpR op_eq (pv 2) (pe_glob (v := .int 37) (by rfl) T.c_PERCENT ⟨_, rfl⟩) (nomark _)))))) (pss_one (ps_ret pe_bl)) pss_nil))))
      (pss_one (ps_ret pe_bl))), ?_⟩
    refine ⟨_, rfl, z, rfl, for_it walk_str (fun i σ H2 => H = H2 ∧ (z.cps.toList.take i).all plainC = true ∧ ∃ x1 x2, σ = [some (.str z), x1, x2]) ⟨rfl, rfl, none, none, rfl⟩ (fun _ _ _ _ _ => trivial) ?_ ?_⟩
    · rintro i x σ _ _ hi ⟨rfl, ha, x1, x2, rfl⟩ ⟨rfl, c, hc, rfl⟩
      have hm := all_take (f := plainC) (cps_at hc)
      rw [ha, Bool.true_and] at hm
      have hno : plainC c = false → plainS z = false := fun h => by
        unfold plainS
        rw [List.all_eq_false]
        exact ⟨c, List.mem_of_getElem? (cps_at hc), by rw [h]; simp⟩
      refine ⟨_, rfl, _, rfl, rfl, _, rfl, _, _, rfl, rfl, _, rfl, ifd (fun h1 => ?_) (fun h1 => ?_)⟩
      · refine (if_pos rfl).mpr ?_
        have : plainC c = false := by
          unfold plainC
          have h1' : (c : Int) < 32 := h1
          simp [show c < 32 by omega]
        rw [hno this] at q
        exact q
      · refine ⟨_, rfl, _, _, rfl, rfl, _, rfl, ifd (fun h2 => ?_) (fun h2 => ?_)⟩
        · refine (if_pos rfl).mpr ?_
          have : plainC c = false := by
            unfold plainC
            have h2' : (126 : Int) < (c : Int) := h2
            simp [show 126 < c by omega]
          rw [hno this] at q
          exact q
        · refine ⟨_, rfl, rfl, _, rfl, ifd (fun h3 => ?_) (fun h3 => ?_)⟩
          · have h3' : ((c : Nat) : Int) = 37 := V.int.inj h3
            have : plainC c = false := by
              unfold plainC
              simp [show c = 37 by omega]
            rw [hno this] at q
            exact q
          · have h3' : ¬ ((c : Nat) : Int) = 37 := fun z => h3 (by show V.int _ = V.int _; rw [← z]; rfl)
            have h1' : ¬ (c : Int) < 32 := h1
            have h2' : ¬ (126 : Int) < (c : Int) := h2
            refine ⟨rfl, ?_, _, _, rfl⟩
            rw [hm]
            unfold plainC
            simp only [Bool.not_eq_true', Bool.or_eq_false_iff, decide_eq_false_iff_not]
            omega
    · rintro σ _ ⟨rfl, ha, x1, x2, rfl⟩
      rw [sizeL, List.take_length] at ha
      have : plainS z = true := ha
      rw [this] at q
      exact q
theorem okHn__is_value_within (T : TX K mg) : ∀ n : Nat, L2H.FnH P w K mg base CX0 (n + 1) T.a__is_value_within T.d__is_value_within ["value", "depth"] (spW K n) := by
  intro n
  induction n with
  | zero => exact HotE.okH T.F__is_value_within sc__is_value_within (fun vs H Q E h => h.elim) (fun cdv A outer s H vs Q E p hc hr h => h.elim)
  | succ n ih__is_value_within =>
    refine HotE.okH T.F__is_value_within sc__is_value_within (fun vs H Q E h => ?_) (fun cdv A outer s H vs Q E p hc hr h => ?_)
    · obtain ⟨v, d, rfl, _⟩ := h
      rfl
    · obtain ⟨v, d, rfl, hn, hd, hf, q⟩ := h
      refine ⟨_, (pss_cons (ps_if (PW.pt (pw_or (pt_cmpR op_isN (pv 0) pe_non (nomark _)) (pw_or1 (pt_val (pe_callB call_isi (by rfl) T.n_isinstance (by decide +kernel) (pa_cons (pv 0) (pa_cons (pe_bltn (v := .ty "bool") (u := .type "bool") (by rfl) T.n_bool (by decide +kernel) rfl) pa_nil))))))) (pss_one (ps_ret pe_bl)) pss_nil)
      (pss_cons (ps_if (pt_val (pe_callB call_isi (by rfl) T.n_isinstance (by decide +kernel) (pa_cons (pv 0) (pa_cons (pe_bltn (v := .ty "int") (u := .type "int") (by rfl) T.n_int (by decide +kernel) rfl) pa_nil)))) (pss_one (ps_ret (pe_cmpR op_le (pe_bits (pv 0)) (pe_glob (v := .int 3000) (by rfl) T.c_MOST_BITS ⟨_, rfl⟩) (nomark _)))) pss_nil)
      (pss_cons (ps_if (pt_val (pe_callB call_isi (by rfl) T.n_isinstance (by decide +kernel) (pa_cons (pv 0) (pa_cons (pe_bltn (v := .ty "str") (u := .type "str") (by rfl) T.n_str (by decide +kernel) rfl) pa_nil)))) (pss_one (ps_ret (pe_and (pe_cmpR op_le (pe_callB call_len (by rfl) T.n_len PySem.boot_len (pa_cons (pv 0) pa_nil)) (pe_glob (v := .int 60000) (by rfl) T.c_MOST_LENGTH ⟨_, rfl⟩) (nomark _)) (pe_one (L2H.pe_callH (okH_has_plain_characters T) (hr.mono (by omega)) hc (by rfl) T.g_has_plain_characters T.F_has_plain_characters.kp T.b_has_plain_characters HotE.passH (pa_cons (pv 0) pa_nil)))))) pss_nil)
      (pss_cons (ps_if (PW.pt (pw_or (pt_not (pt_val (pe_callB call_isi (by rfl) T.n_isinstance (by decide +kernel) (pa_cons (pv 0) (pa_cons (pe_bltn (v := .ty "tuple") (u := .type "tuple") (by rfl) T.n_tuple (by decide +kernel) rfl) pa_nil))))) (pw_or (pt_cmpR op_eq (pv 1) (pe_glob (v := .int 20) (by rfl) T.c_MOST_DEPTH ⟨_, rfl⟩) (nomark _)) (pw_or1 (pt_cmpR op_gt (pe_callB call_len (by rfl) T.n_len PySem.boot_len (pa_cons (pv 0) pa_nil)) (pe_glob (v := .int 60000) (by rfl) T.c_MOST_LENGTH ⟨_, rfl⟩) (nomark _)))))) (pss_one (ps_ret pe_bl)) pss_nil)
      (pss_cons (L2H.ps_forH PassesOwn.never hc (HotE.pi_tupH (pv 0)) (pg_name (i := 2) sc__is_value_within.nd rfl (Or.inl rfl))
        (pss_one (ps_if (pt_not (pt_val (L2H.pe_callH ih__is_value_within (hr.mono (by omega)) hc (by rfl) T.g__is_value_within T.F__is_value_within.kp T.b__is_value_within HotE.passH (pa_cons (pv 2) (pa_cons (pe_op op_add (pv 1) pe_int) pa_nil))))) (pss_one (ps_ret pe_bl)) pss_nil)))
      (pss_one (ps_ret pe_bl))))))), ?_⟩
      dsimp only [tNext, tSeq, tIfS]
      refine or_use (x := decide (v = .non)) (y := isK (kindOf d) "bool") (fun R r => ⟨_, rfl, rfl, _, rfl, r⟩) (fun R r => tisix rfl hd r) ?_
      cases hd with
      | non =>
        rw [okV_non] at q
        exact ifbt rfl q
      | bl b =>
        rw [okV_bl] at q
        exact ifbt rfl q
      | int i =>
        rw [okV_int] at q
        refine ifbf rfl (tisix rfl (.int i) (ifbt rfl ?_))
        exact ⟨_, rfl, i, rfl, _, _, rfl, rfl, q⟩
      | str x =>
        rw [okV_str] at q
        have hx := fits_str hf
        refine ifbf rfl (tisix rfl (.str x) (ifbf rfl (tisix rfl (.str x) (ifbt rfl ?_))))
        refine ⟨_, rfl, _, _, rfl, ⟨sz (by omega), rfl⟩, _, _, rfl, rfl, _, rfl, ?_⟩
        by_cases hc : ((x.length : Nat) : Int) ≤ 60000
        · rw [decide_eq_true hc, Bool.true_and] at q
          exact ift hc ⟨_, rfl, x, rfl, by omega, q⟩
        · rw [decide_eq_false hc, Bool.false_and] at q
          exact iff0 hc q
      | lst h =>
        rw [okV_lst] at q
        refine ifbf rfl (tisix rfl (.lst h) (ifbf rfl (tisix rfl (.lst h) (ifbf rfl ?_))))
        exact tisix rfl (.lst h) ((if_pos rfl).mpr (ifbt rfl q))
      | dic h =>
        rw [okV_lst] at q
        refine ifbf rfl (tisix rfl (.dic h) (ifbf rfl (tisix rfl (.dic h) (ifbf rfl ?_))))
        exact tisix rfl (.dic h) ((if_pos rfl).mpr (ifbt rfl q))
      | @tup p xs ds h0 a =>
        have h := sqt (K := K) h0
        obtain ⟨hl, hfa⟩ := fits_tup hf
        have hxl := dxa_len a
        refine ifbf rfl (tisix rfl (.tup h0 a) (ifbf rfl (tisix rfl (.tup h0 a) (ifbf rfl ?_))))
        refine or_use (x := false) (y := decide (n = 0) || decide ((ds.length : Int) > 60000)) (fun R r => tisix rfl (.tup h0 a) r) (fun R r => or_use (x := decide (n = 0)) (y := decide ((ds.length : Int) > 60000)) (fun R r => ⟨_, rfl, rfl, _, rfl, ?_⟩) (fun R r => ⟨_, rfl, _, _, rfl, .inr ⟨_, h, rfl⟩, _, _, rfl, rfl, _, rfl, ?_⟩) r) ?_
        · by_cases e : n = 0
          · rw [decide_eq_true e] at r
            rw [decide_eq_true (by rw [e]; rfl)]
            exact r
          · rw [decide_eq_false e] at r
            rw [decide_eq_false (fun z => e (by have := V.int.inj z; omega))]
            exact r
        · rw [hxl]
          exact r
        cases n with
        | zero =>
          rw [okV_tup0] at q
          exact ifbt rfl q
        | succ m =>
          rw [okV_tup] at q
          have e20 : (20 : Int) - ((m + 1 : Nat) : Int) + 1 = 20 - (m : Int) := by omega
          by_cases hl2 : ds.length ≤ 60000
          · rw [decide_eq_true hl2, Bool.true_and] at q
            refine ifbf (by simp; omega) ?_
            refine ⟨_, rfl, p, rfl, ⟨_, h⟩, for_tup (K := K) (a := p) (xs := xs) (fun i σ G => H = G ∧ okA m (ds.take i) = true ∧ ∃ x2, σ = [some (.ref p), some (.int (20 - ((m + 1 : Nat) : Int))), x2]) ⟨rfl, by simp [okA], none, rfl⟩ (fun i σ G _ ⟨e, _⟩ => by rw [← e]; exact h) ?_ ?_⟩
            · rintro i x σ _ hx ⟨rfl, hok, x2, rfl⟩
              obtain ⟨d, hdi, hdx⟩ := dxa_at a hx
              refine ⟨_, rfl, _, rfl, _, _, rfl, rfl, x, d, congrArg (fun z => [x, V.int z]) e20, by omega, hdx, fitsA_at hfa hdi, _, rfl, ?_⟩
              cases ed : okV m d with
              | true => exact ifbf rfl ⟨rfl, by rw [okA_take hdi, hok, ed]; rfl, _, rfl⟩
              | false =>
                rw [okA_no hdi ed] at q
                exact ifbt rfl q
            · rintro σ _ ⟨rfl, hok, x2, rfl⟩
              rw [hxl, List.take_length] at hok
              rw [hok] at q
              exact q
          · rw [decide_eq_false hl2, Bool.false_and] at q
            exact ifbt (by simp; omega) q
theorem okH__is_value_within (T : TX K mg) : L2H.FnH P w K mg base CX0 (22) T.a__is_value_within T.d__is_value_within ["value", "depth"] (spW K 21) := okHn__is_value_within T 21
theorem okH_is_value (T : TX K mg) : L2H.FnH P w K mg base CX0 23 T.a_is_value T.d_is_value ["value"] (sp_isv K) := by
  refine HotE.okH T.F_is_value sc_is_value (fun vs H Q E h => ?_) (fun cdv A outer s H vs Q E p hc hr h => ?_)
  · obtain ⟨v, d, rfl, _⟩ := h
    rfl
  · obtain ⟨v, d, rfl, hd, hf, q⟩ := h
    refine ⟨_, (pss_one (ps_ret (L2H.pe_callH (okH__is_value_within T) (hr.mono (by decide)) hc (by rfl) T.g__is_value_within T.F__is_value_within.kp T.b__is_value_within HotE.passH (pa_cons (pv 0) (pa_cons pe_int pa_nil))))), ?_⟩
    exact ⟨_, rfl, v, d, rfl, by decide, hd, hf, q⟩
end
end My
namespace My
open PySem PySem.Spec PyProof.Rows L2
def sp_pack (K : PySem.W.Frag) (cN : Addr) : Sp := fun vs H Q E => ∃ (v : V) (d : PyData), vs = [v] ∧ Dx K H v d ∧ fits d = true ∧
  (okV 20 d = true → (pkL d).length ≤ 90000 ∧ ∀ p H', H p = none → Same H H' → H' p = some (.lst ((pkL d).map V.int)) → Q (.ref p) H') ∧ (okV 20 d = false → E (.ref cN) none H)
section
variable {P : Program} {w : World} {K : PySem.W.Frag} {mg : Str → Option Value} {base : Heap}
theorem ok_pack (T : TX K mg) : FnOk P w K mg base (L2N.CX P w) 24 T.a_pack T.d_pack ["value"] (sp_pack K T.a_NotAValue) := by
  refine HotE.okN T.F_pack sc_pack (fun vs H Q E h => ?_) (fun cdv A outer s H vs Q E hr h => ?_)
  · obtain ⟨v, d, rfl, _⟩ := h
    rfl
  · obtain ⟨v, d, rfl, hd, hf, q1, q2⟩ := h
    refine ⟨_, (pss_cons (ps_if (pt_not (pt_val (pe_call (ok_is_value T) (hr.mono (by decide)) (by rfl) T.g_is_value T.F_is_value.kp T.b_is_value .nil pass0 (pa_cons (pv 0) pa_nil)))) (pss_one (L2N.ps_raise rfl (L2N.takes_of rfl rfl rfl rfl) (L2N.pmk_own PySem.F.excBase_ValueError T.x_NotAValue T.g_NotAValue T.k_NotAValue (raises_own T.s_NotAValue T.t_NotAValue) rfl))) pss_nil)
      (pss_one (ps_ret (pe_call (ok__packed T) (hr.mono (by decide)) (by rfl) T.g__packed T.F__packed.kp T.b__packed .nil pass0 (pa_cons (pv 0) pa_nil))))), ?_⟩
    refine ⟨_, rfl, v, d, rfl, hd, hf, _, rfl, ?_⟩
    cases e : okV 20 d with
    | true =>
      obtain ⟨hl, q⟩ := q1 e
      exact ifbf rfl ⟨_, rfl, v, d, rfl, dx_dp 20 d hd e, e, hl, q⟩
    | false => exact ifbt rfl (q2 e)
end
end My
namespace My
open PySem PySem.Spec PyProof.Rows L2
mutual
theorem okV_fits : ∀ (n : Nat) (d : PyData), okV n d = true → fits d = true
  | _, .none, _ => by simp [fits]
  | _, .bool _, _ => by simp [fits]
  | _, .int _, _ => by simp [fits]
  | n, .str x, h => by
    rw [okV_str, Bool.and_eq_true, decide_eq_true_eq] at h
    simp only [fits, decide_eq_true_eq]
    omega
  | 0, .tuple ds, h => by rw [okV_tup0] at h; cases h
  | n + 1, .tuple ds, h => by
    rw [okV_tup, Bool.and_eq_true, decide_eq_true_eq] at h
    simp only [fits, Bool.and_eq_true, decide_eq_true_eq]
    exact ⟨by omega, okA_fits n ds h.2⟩
  | _, .list ds, h => by rw [okV_lst] at h; cases h
  | m, .dict ds, h => by cases m <;> simp [okV] at h
theorem okA_fits : ∀ (n : Nat) (ds : List PyData), okA n ds = true → fitsA ds = true
  | _, [], _ => by simp [fitsA]
  | n, d :: ds, h => by
    simp only [okA, Bool.and_eq_true] at h
    simp only [fitsA, Bool.and_eq_true]
    exact ⟨okV_fits n d h.1, okA_fits n ds h.2⟩
end
/-! # the law's small words -/
mutual
theorem pk_pos : ∀ (n : Nat) (d : PyData), okV n d = true → 0 < (pkL d).length
  | _, .none, _ => by simp [pkL]
  | _, .bool _, _ => by simp [pkL]
  | _, .int i, _ => by simp only [pkL]; split <;> simp
  | _, .str x, _ => by simp [pkL]
  | _, .tuple ds, _ => by simp [pkL]
  | _, .list ds, h => by rw [okV_lst] at h; cases h
  | m, .dict ds, h => by cases m <;> simp [okV] at h
end
theorem tb_isE {K : PySem.W.Frag} {σ : L2.St} {H : Hp} {Q : Bool → Hp → Prop} {a D C : Addr} {b : Bool} (hv : σ[2]? = some (some (.ref a))) (e : PySem.W.kitOne K (.ref D) (.ref C) = some b) (q : Q b H) :
    tB (tCB (fun xs H Q => Value.ref D = .ref D ∧ (none : Option Addr) = none ∧ rIsE K D a xs H Q) (tCons (tVar 2) (tCons (tC (.ref C)) tNil))) σ H Q := ⟨.ref a, hv, rfl, rfl, .ref C, .ref C, b, rfl, fun _ h => h, e, b, rfl, q⟩
def sp_acc (K : PySem.W.Frag) : Sp := fun vs H Q _ => ∃ (v : V) (d : PyData), vs = [v] ∧ Dx K H v d ∧ okV 20 d = true ∧ (pkL d).length ≤ 90000 ∧ ∀ H', Same H H' → Q (.bl true) H'
def sp_ref (K : PySem.W.Frag) : Sp := fun vs H Q _ => ∃ (v : V) (d : PyData), vs = [v] ∧ Dx K H v d ∧ fits d = true ∧ okV 20 d = false ∧ ∀ H', Same H H' → Q (.bl true) H'
def chainD : Nat → PyData → PyData
  | 0, d => d
  | n + 1, d => .tuple [chainD n d]
def sp_chain (K : PySem.W.Frag) : Sp := fun vs H Q _ => ∃ (v : V) (d : PyData) (n : Nat) (B : Hp), vs = [v, .int (n : Int)] ∧ n ≤ 30 ∧ Same B H ∧ Dx K B v d ∧
  ∀ v' H' B', Same H H' → Same B B' → Same B' H' → (∀ x, H x ≠ none → B x = none → B' x = none) → Dx K B' v' (chainD n d) → Q v' H'
section
variable {P : Program} {w : World} {K : PySem.W.Frag} {mg : Str → Option Value} {base : Heap}
theorem ok__law_accepted (T : TX K mg) : FnOk P w K mg base CX0 25 T.a__law_accepted T.d__law_accepted ["value"] (sp_acc K) := by
  refine T.F__law_accepted.ok sc__law_accepted (fun vs H Q E h => ?_) (fun cdv A outer s H vs Q E hr h => ?_)
  · obtain ⟨v, d, rfl, _⟩ := h
    rfl
  · obtain ⟨v, d, rfl, hd, hok, hl, q⟩ := h
    refine ⟨_, (pss_one (ps_ret (pe_and (pe_cmpR op_is_bl (pe_call (ok_is_value T) (hr.mono (by decide)) (by rfl) T.g_is_value T.F_is_value.kp T.b_is_value .nil pass0 (pa_cons (pv 0) pa_nil)) pe_bl (nomark _)) (pe_one (pe_cmpR op_gt (pe_callB call_len_seq (by rfl) T.n_len PySem.boot_len (pa_cons (pe_call (ok_pack T) (hr.mono (by decide)) (by rfl) T.g_pack T.F_pack.kp T.b_pack .nil HotE.passN (pa_cons (pv 0) pa_nil)) pa_nil)) pe_int (nomark _)))))), ?_⟩
    have hf := okV_fits 20 d hok
    have hp := pk_pos 20 d hok
    refine ⟨_, rfl, v, d, rfl, hd, hf, true, true, by rw [hok], rfl, ?_⟩
    refine ⟨true, rfl, (if_pos rfl).mpr ?_⟩
    refine ⟨_, rfl, v, d, rfl, hd, hf, fun _ => ⟨hl, fun p H' hpn s1 e1 => ?_⟩, fun z => by rw [hok] at z; cases z⟩
    refine ⟨p, _, rfl, .inl (sql e1), _, _, rfl, rfl, ?_⟩
    show Q (V.bl (decide ((0 : Int) < (((pkL d).map V.int).length : Int)))) H'
    rw [List.length_map, decide_eq_true (by omega)]
    exact q _ s1
theorem ok__law_chain (T : TX K mg) : FnOk P w K mg base CX0 1 T.a__law_chain T.d__law_chain ["value", "depth"] (sp_chain K) := by
  refine T.F__law_chain.ok sc__law_chain (fun vs H Q E h => ?_) (fun cdv A outer s H vs Q E hr h => ?_)
  · obtain ⟨v, d, n, B, rfl, _⟩ := h
    rfl
  · obtain ⟨v, d, n, B, rfl, hn, hB, hd, q⟩ := h
    refine ⟨_, (pss_cons (ps_for PassesOwn.never rfl (pi_range1 (by rfl) T.n_range (pa_cons (pv 1) pa_nil)) (pg_name (i := 2) sc__law_chain.nd rfl (Or.inl rfl))
        (pss_one (ps_set (i := 0) sc__law_chain.nd rfl (Or.inl rfl) (pe_tup (pa_cons (pv 0) pa_nil)))))
      (pss_one (ps_ret (pv 0)))), ?_⟩
    refine ⟨_, rfl, _, rfl, by omega, by omega, for_range (lo := 0) (n := _) (fun i σ G => ∃ (v' : V) (x2 : Option V) (B' : Hp), σ = [some v', some (.int (n : Int)), x2] ∧ Same H G ∧ Same B B' ∧ Same B' G ∧ (∀ x, H x ≠ none → B x = none → B' x = none) ∧ Dx K B' v' (chainD i d)) ⟨v, none, B, rfl, Same.refl _, Same.refl _, hB, fun _ _ h => h, hd⟩ ?_ ?_⟩
    · rintro i σ G hi ⟨v', x2, B', rfl, g1, g2, g3, g4, g5⟩
      refine ⟨_, rfl, (by show 1 ≤ sizeLine; decide), fun p hp => ?_⟩
      refine ⟨_, _, upd B' p (.tup [v']), rfl, g1.trans (same_upd hp), g2.trans (same_upd (by
        cases e : B' p with
        | none => rfl
        | some o => rw [g3 _ _ e] at hp; cases hp)), same_both g3, fun x h1 h2 => ?_, .tup upd_same (.cons (dx_same (same_upd (by
        cases e : B' p with
        | none => rfl
        | some o => rw [g3 _ _ e] at hp; cases hp)) _ g5) .nil)⟩
      rw [upd_ne (fun z => h1 (by
        cases e : H x with
        | none => rfl
        | some o => rw [z] at e; rw [g1 _ _ e] at hp; cases hp))]
      exact g4 x h1 h2
    · rintro σ G ⟨v', x2, B', rfl, g1, g2, g3, g4, g5⟩
      refine ⟨_, rfl, q _ _ _ g1 g2 g3 g4 ?_⟩
      rw [show ((n : Int)).toNat = n by omega] at g5
      exact g5
theorem ok__law_refused (T : TX K mg) : FnOk P w K mg base CX0 25 T.a__law_refused T.d__law_refused ["value"] (sp_ref K) := by
  refine T.F__law_refused.ok sc__law_refused (fun vs H Q E h => ?_) (fun cdv A outer s H vs Q E hr h => ?_)
  · obtain ⟨v, d, rfl, _⟩ := h
    rfl
  · obtain ⟨v, d, rfl, hd, hf, hok, q⟩ := h
    refine ⟨_, (pss_cons (L2N.ps_try_as (i := 2) rfl rfl sc__law_refused.nd rfl rfl ⟨rfl, by decide, .inl T.g_NotAValue⟩ HotE.takesN (fun W pn xe tk po => (pss_one (ps_set (i := 1) sc__law_refused.nd rfl (Or.inl rfl) (pe_callS (ok_pack T) (hr.mono (by decide)) (by rfl) T.g_pack T.F_pack.kp T.b_pack (fun σ => L2N.passAt tk σ) (pa_cons (pv 0) pa_nil))))) (fun a oe cls d pn hz hf => (pss_cons (ps_if (PW.pt (pw_or (pt_val (pe_callB (call_isE1 T.X_NotAValue hz.zc hf) (by rfl) T.n_isinstance (by decide +kernel) (pa_cons (pv 2) (pa_cons (pe_glob (v := .ref T.a_Truncated) (by rfl) T.g_Truncated rfl) pa_nil)))) (pw_or (pt_val (pe_callB (call_isE1 T.X_NotAValue hz.zc hf) (by rfl) T.n_isinstance (by decide +kernel) (pa_cons (pv 2) (pa_cons (pe_glob (v := .ref T.a_Malformed) (by rfl) T.g_Malformed rfl) pa_nil)))) (pw_or1 (pt_val (pe_callB (call_isE1 T.X_NotAValue hz.zc hf) (by rfl) T.n_isinstance (by decide +kernel) (pa_cons (pv 2) (pa_cons (pe_glob (v := .ref T.a_Damaged) (by rfl) T.g_Damaged rfl) pa_nil)))))))) (pss_one (ps_ret pe_bl)) pss_nil)
          (pss_one (ps_ret (pe_and (pe_callB (call_isE1 T.X_NotAValue hz.zc hf) (by rfl) T.n_isinstance (by decide +kernel) (pa_cons (pv 2) (pa_cons (pe_glob (v := .ref T.a_CodecError) (by rfl) T.g_CodecError rfl) pa_nil))) (pe_one (pe_cmpR op_is_bl (L2H.pe_callH (okH_is_value T) (HotE.roomS (hr.mono (Nat.le_succ 23))) (HotE.hotS hz hf) (by rfl) T.g_is_value T.F_is_value.kp T.b_is_value HotE.passH (pa_cons (pv 0) pa_nil)) pe_bl (nomark _)))))))))
      (pss_one (ps_ret pe_bl))), ?_⟩
    refine ⟨_, rfl, v, d, rfl, hd, hf, fun z => (by rw [hok] at z; cases z), fun _ => ⟨true, T.ee_NotAValue, fun _ a ha => ?_, fun z => (by cases z)⟩⟩
    refine or_use (x := false) (y := false) (fun R r => tb_isE rfl T.y_NotAValue_Truncated r) (fun R r => or_use (x := false) (y := false) (fun R r => tb_isE rfl T.y_NotAValue_Malformed r) (fun R r => tb_isE rfl T.y_NotAValue_Damaged r) r) ?_
    refine ifbf rfl ?_
    refine ⟨.ref a, rfl, rfl, rfl, .ref T.a_CodecError, .ref T.a_CodecError, true, rfl, fun _ h => h, T.y_NotAValue_CodecError, true, rfl, (if_pos rfl).mpr ?_⟩
    exact ⟨_, rfl, v, d, rfl, hd, hf, false, false, by rw [hok], rfl, q H (Same.refl _)⟩
end
end My
namespace My
open PySem PySem.Spec PyProof.Rows L2
theorem joinL_nil : ∀ cs : List Nat, TL.joinL [] (cs.map fun c => [c]) = cs
  | [] => rfl
  | [c] => rfl
  | c :: d :: r => by
    show [c] ++ ([] ++ TL.joinL [] ((d :: r).map fun c => [c])) = _
    rw [joinL_nil (d :: r)]
    rfl
theorem join_signs (cs : List Nat) : Txt.join ("" : Str) (cs.map fun c => (⟨#[c]⟩ : Str)) = ⟨cs.toArray⟩ := by
  have h := SX.join_S [] (cs.map fun c => [c])
  rw [joinL_nil, List.map_map] at h
  have e : ("" : Str) = SX.S [] := by decide +kernel
  rw [e]
  exact h
theorem signs_len (cs : List Nat) : ((cs.map fun c => (⟨#[c]⟩ : Str)).map (·.length)).sum = cs.length := by
  induction cs with
  | nil => rfl
  | cons c cs ih => rw [List.map_cons, List.map_cons, List.sum_cons, ih, List.length_cons]; show 1 + _ = _; omega
theorem sign_len (c : Nat) : (⟨#[c]⟩ : Str).length = 1 := rfl
/-! the draws of a script: many numbers from 0 to 996 -/
def Drawn (ds : List Int) : Prop := ∀ d ∈ ds, 0 ≤ d ∧ d < 997
theorem drawn_app {ds es : List Int} (h : Drawn ds) (g : Drawn es) : Drawn (ds ++ es) := fun d hd => (List.mem_append.mp hd).elim (h d) (g d)
theorem drawn_one {d : Int} (h : 0 ≤ d) (g : d < 997) : Drawn [d] := fun e he => by rw [List.mem_singleton] at he; subst he; exact ⟨h, g⟩
theorem drawn_take {ds : List Int} (n : Nat) (h : Drawn ds) : Drawn (ds.take n) := fun d hd => h d (List.mem_of_mem_take hd)
def sp_draws (K : PySem.W.Frag) : Sp := fun vs H Q _ => ∃ (a : Addr) (ns : List Int) (many : Nat), vs = [.ref a, .int (many : Int)] ∧ SqL K H a (ns.map V.int) ∧ ns.length ≤ 63 ∧ many ≤ 1000 ∧
  ∀ (p : Addr) (H' : Hp) (ds : List Int), H p = none → Same H H' → H' p = some (.lst (ds.map V.int)) → Drawn ds → ds.length = many → Q (.ref p) H'
section
variable {P : Program} {w : World} {K : PySem.W.Frag} {mg : Str → Option Value} {base : Heap}
theorem ok__law_draws (T : TX K mg) : FnOk P w K mg base CX0 1 T.a__law_draws T.d__law_draws ["script", "many"] (sp_draws K) := by
  refine T.F__law_draws.ok sc__law_draws (fun vs H Q E h => ?_) (fun cdv A outer s H vs Q E hr h => ?_)
  · obtain ⟨a, ns, many, rfl, _⟩ := h
    rfl
  · obtain ⟨a, ns, many, rfl, hS, hlen, hm, q⟩ := h
    refine ⟨_, (pss_cons (ps_set (i := 2) sc__law_draws.nd rfl (Or.inl rfl) (pe_lst pa_nil))
      (pss_cons (ps_set (i := 3) sc__law_draws.nd rfl (Or.inl rfl) pe_int)
      (pss_cons (ps_for PassesOwn.never rfl (pi_range1 (by rfl) T.n_range (pa_cons (pe_callB call_len_seq (by rfl) T.n_len PySem.boot_len (pa_cons (pv 0) pa_nil)) pa_nil)) (pg_name (i := 4) sc__law_draws.nd rfl (Or.inl rfl))
        (pss_cons (ps_set (i := 5) sc__law_draws.nd rfl (Or.inl rfl) (pe_callB call_abs (by rfl) T.n_abs (by decide +kernel) (pa_cons (pe_callTy call_int1 (by rfl) T.n_int (by decide +kernel) (pa_cons (pe_ix ix_list (pv 0) (pv 4) (fun _ _ => rfl)) pa_nil)) pa_nil)))
        (pss_cons (ps_set (i := 3) sc__law_draws.nd rfl (Or.inl rfl) (pe_op op_mod (pe_callTy call_int1 (by rfl) T.n_int (by decide +kernel) (pa_cons (pe_op op_add (pe_op op_add (pe_op op_mul (pv 3) pe_int) (pe_op op_mod (pv 5) pe_int)) (pv 4)) pa_nil)) pe_int))
        (pss_cons (ps_set (i := 6) sc__law_draws.nd rfl (Or.inl rfl) pe_int)
        (C8.pss_cut (ps_if (pt_cmpR op_ge (pv 5) (pe_op op_pow pe_int pe_int) (nomark _)) (pss_one (ps_set (i := 6) sc__law_draws.nd rfl (Or.inl rfl) (pv 5))) (pss_cons (ps_expr (pe_bm PySem.F.plainAttrs_list PySem.F.slot_list_append PySem.F.type_list_append mt_append (pv 2) (pa_cons (pe_op op_mod (pv 5) pe_int) pa_nil)))
          (pss_one (ps_expr (pe_bm PySem.F.plainAttrs_list PySem.F.slot_list_append PySem.F.type_list_append mt_append (pv 2) (pa_cons (pe_op op_mod (pe_op op_mod (pe_callTy call_int1 (by rfl) T.n_int (by decide +kernel) (pa_cons (pe_op op_add (pe_op op_mul (pv 3) pe_int) pe_int) pa_nil)) pe_int) pe_int) pa_nil))))))
        (pss_one (ps_for PassesOwn.never rfl (pi_range1 (by rfl) T.n_range (pa_cons pe_int pa_nil)) (pg_name (i := 7) sc__law_draws.nd rfl (Or.inl rfl))
          (pss_one (ps_if (pt_cmpR op_gt (pv 6) pe_int (nomark _)) (pss_cons (ps_expr (pe_bm PySem.F.plainAttrs_list PySem.F.slot_list_append PySem.F.type_list_append mt_append (pv 2) (pa_cons (pe_op op_mod (pe_callTy call_int1 (by rfl) T.n_int (by decide +kernel) (pa_cons (pv 6) pa_nil)) pe_int) pa_nil)))
            (pss_one (ps_set (i := 6) sc__law_draws.nd rfl (Or.inl rfl) (pe_op op_fdiv (pv 6) pe_int)))) pss_nil)))))))))
      (pss_cons (ps_for PassesOwn.never rfl (pi_range1 (by rfl) T.n_range (pa_cons (pv 1) pa_nil)) (pg_name (i := 4) sc__law_draws.nd rfl (Or.inl rfl))
        (pss_cons (ps_set (i := 3) sc__law_draws.nd rfl (Or.inl rfl) (pe_op op_mod (pe_callTy call_int1 (by rfl) T.n_int (by decide +kernel) (pa_cons (pe_op op_add (pe_op op_add (pe_op op_mul (pv 3) pe_int) (pv 4)) pe_int) pa_nil)) pe_int))
        (pss_one (ps_expr (pe_bm PySem.F.plainAttrs_list PySem.F.slot_list_append PySem.F.type_list_append mt_append (pv 2) (pa_cons (pe_op op_mod (pe_callTy call_int1 (by rfl) T.n_int (by decide +kernel) (pa_cons (pv 3) pa_nil)) pe_int) pa_nil))))))
      (pss_one (ps_ret (pe_slice sl_list (pv 2) po_none (po_some (pv 1))))))))), ?_⟩
    refine ⟨Nat.zero_le _, fun o ho => ?_⟩
    have s1 := same_upd (o := .lst []) ho
    -- each cell
    refine ⟨_, rfl, a, _, rfl, .inl (s1.seq hS), _, rfl, by rw [List.length_map]; omega, by rw [List.length_map]; omega, for_range (lo := 0) (n := _) (fun i σ H2 => ∃ (ds : List Int) (mx : Int) (x4 x5 x6 x7 : Option V), σ = [some (.ref a), some (.int (many : Int)), some (.ref o), some (.int mx), x4, x5, x6, x7] ∧ Same H H2 ∧ H2 o = some (.lst (ds.map V.int)) ∧ Drawn ds ∧ ds.length ≤ 62 * i)
      ⟨[], 7, none, none, none, none, rfl, s1, upd_same, (fun _ h => by cases h), Nat.le_refl _⟩ ?_ ?_⟩
    · rintro i σ H2 hi ⟨ds, mx, x4, x5, x6, x7, rfl, g1, g2, g3, g4⟩
      rw [List.length_map] at hi
      have hi' : i < ns.length := by omega
      have hg : ns[i]? = some ns[i] := List.getElem?_eq_getElem hi'
      have ha : atI (ns.map V.int) (0 + (i : Int)) = some (.int ns[i]) := by rw [Int.zero_add]; exact at_map hg
      generalize ns[i] = c at ha
      -- cell, mixed
      refine ⟨_, rfl, _, rfl, a, _, _, _, rfl, rfl, g1.seq hS, ha, .inl ⟨_, rfl, _, rfl, ?_⟩⟩
      dsimp only
      have hc : 0 ≤ (if c < 0 then -c else c) := by split <;> omega
      generalize (if c < 0 then -c else c) = cell at hc
      refine ⟨_, rfl, _, _, rfl, rfl, .inr ⟨by decide, by decide⟩, _, rfl, _, _, rfl, rfl, (by show (0 : Int) < _; decide), _, _, rfl, rfl, _, rfl, _, _, rfl, rfl, .inl ⟨_, rfl, _, _, rfl, rfl, (by show (0 : Int) < _; decide), ?_⟩⟩
      dsimp only
      generalize (mx * 48271 + cell % 1000003 + (0 + (i : Int))) % 65537 = mx2
      -- rest = 0; if cell >= 10 ** 18
      refine ⟨fun σ' H' => ∃ (ds' : List Int) (rest : Int) , 0 ≤ rest ∧ σ' = [some (.ref a), some (.int (many : Int)), some (.ref o), some (.int mx2), some (.int (0 + (i : Int))), some (.int cell), some (.int rest), x7] ∧ Same H H' ∧ H' o = some (.lst (ds'.map V.int)) ∧ Drawn ds' ∧ ds'.length ≤ 62 * i + 2, ?_, ?_⟩
      · refine ⟨_, rfl, _, _, rfl, rfl, ⟨by decide, by decide, by decide⟩, _, _, rfl, rfl, _, rfl, ifd (fun hb => ?_) (fun hb => ?_)⟩
        · exact ⟨_, rfl, ds, cell, hc, rfl, g1, g2, g3, by omega⟩
        · refine ⟨_, rfl, .inl ⟨rfl, _, sql g2⟩, _, rfl, _, _, rfl, rfl, (by show (0 : Int) < _; decide), o, _, _, rfl, rfl, g2, szl (by rw [List.length_map]; omega), ?_⟩
          refine ⟨_, rfl, .inl ⟨rfl, _, sql upd_same⟩, _, rfl, _, _, rfl, rfl, .inr ⟨by decide, by decide⟩, _, _, rfl, rfl, .inl ⟨_, rfl, _, _, rfl, rfl, (by show (0 : Int) < _; decide), _, _, rfl, rfl, (by show (0 : Int) < _; decide), o, _, _, rfl, rfl, upd_same, szl (by rw [List.length_append, List.length_map]; simp only [List.length_cons, List.length_nil]; omega), ?_⟩⟩
          refine ⟨ds ++ [cell % 997, (mx2 * 69621 + 5) % 65521 % 997], 0, Int.le_refl _, rfl, same_put (same_put g1 ho) ho, ?_, drawn_app g3 fun d hd => ?_, by rw [List.length_append]; simp only [List.length_cons, List.length_nil]; omega⟩
          · rw [upd_same, List.map_append, List.append_assoc]
            rfl
          · simp only [List.mem_cons, List.not_mem_nil, or_false] at hd
            rcases hd with rfl | rfl
            · exact ⟨Int.emod_nonneg _ (by decide), Int.emod_lt_of_pos _ (by decide)⟩
            · exact ⟨Int.emod_nonneg _ (by decide), Int.emod_lt_of_pos _ (by decide)⟩
      rintro σ' H' ⟨ds', rest, hr0, rfl, k1, k2, k3, k4⟩
      -- sixty times
      refine ⟨60, rfl, by decide, by decide, for_range (lo := 0) (n := 60) (fun j σ H3 => ∃ (es : List Int) (rest : Int) (x7 : Option V), 0 ≤ rest ∧ σ = [some (.ref a), some (.int (many : Int)), some (.ref o), some (.int mx2), some (.int (0 + (i : Int))), some (.int cell), some (.int rest), x7] ∧ Same H H3 ∧ H3 o = some (.lst (es.map V.int)) ∧ Drawn es ∧ es.length ≤ 62 * i + 2 + j)
        ⟨ds', rest, x7, hr0, rfl, k1, k2, k3, k4⟩ ?_ ?_⟩
      · rintro j σ H3 hj ⟨es, rest, x7, h0, rfl, k1, k2, k3, k4⟩
        refine ⟨_, rfl, _, _, rfl, rfl, _, rfl, ifd (fun hb => ?_) (fun hb => ?_)⟩
        · refine ⟨_, rfl, .inl ⟨rfl, _, sql k2⟩, _, rfl, .inl ⟨_, rfl, _, _, rfl, rfl, (by show (0 : Int) < _; decide), o, _, _, rfl, rfl, k2, szl (by rw [List.length_map]; omega), ?_⟩⟩
          refine ⟨_, rfl, _, _, rfl, rfl, ⟨by decide, by decide⟩, ?_⟩
          refine ⟨es ++ [rest % 997], rest / 997, some (.int (0 + (j : Int))), Int.ediv_nonneg h0 (by decide), rfl, same_put k1 ho, ?_, drawn_app k3 (drawn_one (Int.emod_nonneg _ (by decide)) (Int.emod_lt_of_pos _ (by decide))), by rw [List.length_append]; simp only [List.length_cons, List.length_nil]; omega⟩
          rw [upd_same, List.map_append]
          rfl
        · exact ⟨es, rest, some (.int (0 + (j : Int))), h0, rfl, k1, k2, k3, by omega⟩
      · rintro σ H3 ⟨es, rest, x7, h0, rfl, k1, k2, k3, k4⟩
        exact ⟨es, mx2, _, _, _, _, rfl, k1, k2, k3, by omega⟩
    · rintro σ H2 ⟨ds, mx, x4, x5, x6, x7, rfl, g1, g2, g3, g4⟩
      have hl0 : ds.length ≤ 4000 := by
        simp only [List.length_map] at g4
        omega
      refine ⟨_, rfl, (many : Int), rfl, by omega, by omega, for_range (lo := 0) (n := (many : Int).toNat) (fun i σ H3 => ∃ (es : List Int) (mx : Int) (x4 : Option V), σ = [some (.ref a), some (.int (many : Int)), some (.ref o), some (.int mx), x4, x5, x6, x7] ∧ Same H H3 ∧ H3 o = some (.lst (es.map V.int)) ∧ Drawn es ∧ es.length = ds.length + i)
        ⟨ds, mx, x4, rfl, g1, g2, g3, rfl⟩ ?_ ?_⟩
      · rintro i σ H3 hi ⟨es, mx, x4, rfl, k1, k2, k3, k4⟩
        refine ⟨_, rfl, _, _, rfl, rfl, .inr ⟨by decide, by decide⟩, _, rfl, _, _, rfl, rfl, _, _, rfl, rfl, .inl ⟨_, rfl, _, _, rfl, rfl, (by show (0 : Int) < _; decide), ?_⟩⟩
        refine ⟨_, rfl, .inl ⟨rfl, _, sql k2⟩, _, rfl, .inl ⟨_, rfl, _, _, rfl, rfl, (by show (0 : Int) < _; decide), o, _, _, rfl, rfl, k2, szl (by rw [List.length_map]; omega), ?_⟩⟩
        refine ⟨es ++ [(mx * 16807 + (0 + (i : Int)) + 1) % 65537 % 997], (mx * 16807 + (0 + (i : Int)) + 1) % 65537, some (.int (0 + (i : Int))), rfl, same_put k1 ho, ?_, drawn_app k3 (drawn_one (Int.emod_nonneg _ (by decide)) (Int.emod_lt_of_pos _ (by decide))), by rw [List.length_append, k4]; simp only [List.length_cons, List.length_nil]; omega⟩
        rw [upd_same, List.map_append]
        rfl
      · rintro σ H3 ⟨es, mx, x4, rfl, k1, k2, k3, k4⟩
        refine ⟨_, rfl, _, rfl, _, rfl, o, _, rfl, sql k2, fun p hp => ?_⟩
        refine q p _ (es.take many) (k1.free hp) (k1.trans (same_upd hp)) ?_ (drawn_take _ k3) (by rw [List.length_take]; omega)
        rw [upd_same, cut0n, List.map_take]
end
/-! a text, many times over -/
theorem fold_cps : ∀ (k : Nat) (x acc : Array Nat), ((List.replicate k x).foldl (· ++ ·) acc).toList = acc.toList ++ (List.replicate k x.toList).flatten
  | 0, x, acc => by simp
  | k + 1, x, acc => by
    rw [List.replicate_succ, List.foldl_cons, fold_cps k, List.replicate_succ, List.flatten_cons, Array.toList_append, List.append_assoc]
theorem mul_list {x : Str} {n : Int} (hn : 1 ≤ n) : (PySem.Txt.mul x n).cps.toList = (List.replicate n.toNat x.cps.toList).flatten := by
  unfold PySem.Txt.mul
  rw [if_neg (by omega)]
  split
  · rename_i h
    rw [Bool.or_eq_true, beq_iff_eq, beq_iff_eq] at h
    rcases h with h | h
    · subst h
      simp
    · have : x.cps.toList = [] := List.eq_nil_of_length_eq_zero (by rw [← zlen]; exact h)
      rw [this]
      simp
  · have := fold_cps n.toNat x.cps #[]
    rw [this]
    rfl
theorem mul_len {x : Str} {n : Int} (hn : 1 ≤ n) : (PySem.Txt.mul x n).length = n.toNat * x.length := by
  rw [zlen, zlen, mul_list hn]
  simp
def rRepS : R2 := fun x y H Q => ∃ i n, x = .str i ∧ y = .int n ∧ 1 ≤ n ∧ n ≤ 100000 ∧ n.toNat * i.length ≤ 100000 ∧ Q (.str (PySem.Txt.mul i n)) H
theorem op_repS {X : Cx} : OpR X (binaryOp .Mult) rRepS := by
  intro pins s σ H x y v u Q I rx ry h
  obtain ⟨i, n, rfl, rfl, h1, h2, h3, q⟩ := h
  obtain ⟨t, rfl⟩ := rx
  obtain ⟨t', rfl⟩ := ry
  refine PySem.SB.mul ⟨?_, fun _ hx => ?_, fun _ _ => ?_⟩ fun t' k => ⟨.str (PySem.Txt.mul i n), H, I.tok _, ⟨_, rfl⟩, q⟩
  · rw [Bool.or_eq_false_iff]
    exact ⟨decide_eq_false (by omega), decide_eq_false (by omega)⟩
  · have h4 : i.length ≤ 100000 := by
      have : 1 * i.length ≤ n.toNat * i.length := Nat.mul_le_mul_right _ (by omega)
      omega
    have h5 : (2 ^ 63 - 1 : Int) / 100000 ≤ (2 ^ 63 - 1) / n := by
      rw [Int.le_ediv_iff_mul_le (by omega)]
      have : (2 ^ 63 - 1 : Int) / 100000 * n ≤ (2 ^ 63 - 1 : Int) / 100000 * 100000 := Int.mul_le_mul_of_nonneg_left h2 (by decide)
      omega
    omega
  · show decide (i.length * n.toNat > sizeLine) = false
    rw [Nat.mul_comm]
    exact decide_eq_false (by rw [sizeLine_eq]; omega)
/-! a tuple, many times over (no more than 100000 things in all) -/
def rRepG (K : PySem.W.Frag) : R2 := fun x y H Q => ∃ (l : Addr) (k : Nat) (xs : List V), x = .ref l ∧ y = .int (k : Int) ∧ SqT K H l xs ∧ xs ≠ [] ∧ 2 ≤ k ∧ k * xs.length ≤ 100000 ∧ ∀ p, H p = none → Q (.ref p) (upd H p (.tup (List.replicate k xs).flatten))
theorem op_repG {X : Cx} : OpR X (binaryOp .Mult) (rRepG X.K) := by
  intro pins s σ H x y v u Q I rx ry h
  obtain ⟨l, k, xs, rfl, rfl, hT, hne, h1, hz, q⟩ := h
  cases rx
  obtain ⟨t, rfl⟩ := ry
  obtain ⟨its, r, ⟨⟨cls, dd, data, sl⟩, ho, hc, n, hd⟩, hs⟩ := I.tuple hT
  simp only at hc hd
  subst hc hd
  have hle : its.length = xs.length := r.length.symm
  have hxp : 0 < xs.length := List.length_pos_iff.mpr hne
  have hk : k ≤ 100000 := Nat.le_trans (Nat.le_mul_of_pos_right k hxp) hz
  have hi : its.toArray.isEmpty = false := by
    cases its with
    | nil => simp only [List.length_nil] at hle; omega
    | cons a b => rfl
  have hm : ((its.toArray.size : Nat) : Int) * (k : Int) ≤ 100000 := by
    rw [List.size_toArray, hle, Int.mul_comm]
    have h : ((k * xs.length : Nat) : Int) ≤ ((100000 : Nat) : Int) := Int.ofNat_le.mpr hz
    rw [Int.natCast_mul] at h
    exact h
  have fl : ∀ {α : Type} (zs : List α), zs.length = xs.length → (List.replicate k zs).flatten.length ≤ 100000 := fun zs e => by
    rw [PyProof.Rows.lm_len_rep_flat, e]
    exact hz
  have d1 : (decide ((k : Int) < -(2 ^ 63)) || decide ((k : Int) ≥ 2 ^ 63)) = false := by rw [Bool.or_eq_false_iff]; exact ⟨decide_eq_false (by omega), decide_eq_false (by omega)⟩
  have d2 : (its.toArray.isEmpty || (k : Int) == 1) = false := by rw [hi, Bool.false_or]; exact beq_eq_false_iff_ne.mpr (by omega)
  have d3 : (decide ((k : Int) ≤ 0) || its.toArray.isEmpty) = false := by rw [hi, Bool.or_false]; exact decide_eq_false (by omega)
  have d4 : Builtin.Tuple.tupleTooMany (((its.toArray.size : Nat) : Int) * (k : Int)) = false := by unfold Builtin.Tuple.tupleTooMany; rw [sizeLine_eq]; exact decide_eq_false (by omega)
  refine wpAny_binaryOp_repeat_ref (T := "tuple") (U := "int") (by decide) ⟨_, ho, rfl⟩ (fun s' => typeIs_int s' (k : Int) t) noFill_tuple_mul F.fills_int_mul F.slot_int_rmul repeat_tuple F.slot_int_index.lookup ?_
  refine call_meets F.slot_int_rmul (typeIs_int s (k : Int) t) F.entry_int_rmul (F.args_int_rmul_2 _ _) (int_rmul_tuple (k : Int) t l its.toArray n dd sl) ⟨ho, rfl, ⟨_, ho, rfl⟩, ?_⟩
  refine call_meets F.slot_tuple_mul ⟨_, ho, rfl⟩ F.entry_tuple_mul (F.args_tuple_mul_2 _ _) (tuple_mulW l its.toArray n dd sl (k : Int) t d1 d2 d3 (by omega) d4 (by rw [size_rep, List.size_toArray]; exact sz (fl its hle))) ⟨ho, ?_⟩
  rw [size_rep]
  exact ⟨.ref s.heap.objs.size, _, I.laid (t' := s.toks) (o := .tup (List.replicate k xs).flatten) (fun b ob q => Heap.get?_push_of_some _ q) (Nat.le_refl _) ⟨sz (fl xs rfl), _, r.rep k, IsTup.new _ _⟩, rfl, q _ (I.hok.fresh (Nat.le_refl _))⟩
def lwS : Str := (" !\"#$&'()*+,-./0123456789:;<=>?@ABCDEFGHIJKLMNOPQRSTUVWXYZ[\\]^_`" : Str) ++ ("abcdefghijklmnopqrstuvwxyz{|}~" : Str)
theorem lw_at : ∀ j : Nat, j < 94 → (lwS.cps.toList[j]?).any plainC = true := by decide +kernel
theorem lw_len : lwS.length = 94 := by decide +kernel
def sp_char : Sp := fun vs H Q _ => ∃ (d : Int), vs = [.int d] ∧ ∀ c, plainC c = true → Q (.str ⟨#[c]⟩) H
section
variable {P : Program} {w : World} {K : PySem.W.Frag} {mg : Str → Option Value} {base : Heap}
theorem ok__law_char (T : TX K mg) : FnOk P w K mg base CX0 1 T.a__law_char T.d__law_char ["draw"] sp_char := by
  refine T.F__law_char.ok sc__law_char (fun vs H Q E h => ?_) (fun cdv A outer s H vs Q E hr h => ?_)
  · obtain ⟨d, rfl, _⟩ := h
    rfl
  · obtain ⟨d, rfl, q⟩ := h
    refine ⟨_, (pss_cons (ps_set (i := 1) sc__law_char.nd rfl (Or.inl rfl) pe_str)
      (pss_cons (ps_set (i := 1) sc__law_char.nd rfl (Or.inl rfl) (pe_op op_add_str (pv 1) pe_str))
      (pss_one (ps_ret (pe_ix ix_str (pv 1) (pe_op op_mod (pe_callTy call_int1 (by rfl) T.n_int (by decide +kernel) (pa_cons (pv 0) pa_nil)) pe_int) (fun _ _ => rfl)))))), ?_⟩
    refine ⟨_, rfl, _, _, rfl, rfl, by rw [show Str.length _ + Str.length _ = 94 by decide +kernel]; exact sz (by decide), ?_⟩
    obtain ⟨j, hj⟩ := Int.eq_ofNat_of_zero_le (Int.emod_nonneg d (show (94 : Int) ≠ 0 by decide))
    have hj2 : j < 94 := by have := Int.emod_lt_of_pos d (show (0 : Int) < 94 by decide); omega
    have hat := lw_at j hj2
    obtain ⟨c, hc, hp⟩ : ∃ c, lwS.cps.toList[j]? = some c ∧ plainC c = true := by
      cases e : lwS.cps.toList[j]? with
      | none => rw [e] at hat; cases hat
      | some c => exact ⟨c, rfl, by rw [e] at hat; exact hat⟩
    exact ⟨_, rfl, _, rfl, .inl ⟨_, rfl, _, _, rfl, rfl, (by show (0 : Int) < _; decide), _, _, c, rfl, rfl, (show lwS.length ≤ sizeLine from by rw [lw_len]; exact sz (by decide)), (by rw [hj]; exact atI_nat hc), q c hp⟩⟩
end
/-! # what the law puts into its lists -/
def Good (d : PyData) : Prop := okV 20 d = true ∧ (pkL d).length ≤ 90000
def Bad (d : PyData) : Prop := fits d = true ∧ ∀ n, n ≤ 20 → okV n d = false
theorem app_cps (x y : Str) : (x ++ y : Str).cps.toList = x.cps.toList ++ y.cps.toList := by
  show (x.cps ++ y.cps).toList = _
  rw [Array.toList_append]
theorem app_len (x y : Str) : (x ++ y : Str).length = x.length + y.length := by
  rw [zlen, app_cps, List.length_append, ← zlen, ← zlen]
theorem plain_app (x y : Str) : plainS (x ++ y) = (plainS x && plainS y) := by
  unfold plainS
  rw [app_cps, List.all_append]
theorem okA_one (n : Nat) (d : PyData) : okA n [d] = okV n d := by simp [okA]
theorem okV_one (n : Nat) (d : PyData) : okV (n + 1) (.tuple [d]) = okV n d := by
  rw [okV_tup, okA_one]
  simp
theorem okV_chain : ∀ (m n : Nat) (d : PyData), okV (n + m) (chainD m d) = okV n d
  | 0, n, d => rfl
  | m + 1, n, d => by
    show okV (n + m + 1) (.tuple [chainD m d]) = _
    rw [okV_one, okV_chain m n d]
theorem pk_one (d : PyData) : (pkL (.tuple [d])).length = (pkL d).length + 2 := by
  have e : enc 1 = [1] := enc_small (n := 1) (by decide)
  simp [pkL, pkA, e]
theorem pk_chain : ∀ (m : Nat) (d : PyData), (pkL (chainD m d)).length = (pkL d).length + 2 * m
  | 0, d => rfl
  | m + 1, d => by
    show (pkL (.tuple [chainD m d])).length = _
    rw [pk_one, pk_chain m d]
    omega
theorem fits_chain : ∀ (m : Nat) (d : PyData), fits d = true → fits (chainD m d) = true
  | 0, d, h => h
  | m + 1, d, h => by
    show fits (.tuple [chainD m d]) = true
    simp [fits, fitsA, fits_chain m d h]
theorem no_chain : ∀ (m n : Nat) (d : PyData), n < m → okV n (chainD m d) = false
  | m + 1, 0, d, _ => okV_tup0 _
  | m + 1, n + 1, d, h => by
    show okV (n + 1) (.tuple [chainD m d]) = false
    rw [okV_one]
    exact no_chain m n d (by omega)
theorem no_chain0 : ∀ (m n : Nat), n ≤ m → okV n (chainD m (.tuple [])) = false
  | m, 0, _ => by
    cases m with
    | zero => exact okV_tup0 _
    | succ m => exact okV_tup0 _
  | m + 1, n + 1, h => by
    show okV (n + 1) (.tuple [chainD m (.tuple [])]) = false
    rw [okV_one]
    exact no_chain0 m n (by omega)
theorem bits_iff (i : Int) : bitsOk i = decide (i.natAbs < 2 ^ 3000) := by
  unfold bitsOk Builtin.Int.intBits
  rw [decide_eq_decide]
  by_cases h0 : i = 0
  · rw [h0]
    exact ⟨fun _ => Nat.pow_pos (by decide), fun _ => Nat.zero_le _⟩
  · rw [if_neg (show ¬ (i == 0) = true from fun z => h0 (by simpa using z))]
    rw [← Nat.log2_lt (show i.natAbs ≠ 0 by omega)]
    omega
theorem okV_bits (n : Nat) (i : Int) : okV n (.int i) = bitsOk i := by cases n <;> simp [okV]
theorem good_int {i : Int} (h : bitsOk i = true) : Good (.int i) := by
  refine ⟨by rw [okV_bits, h], ?_⟩
  have hb : i.natAbs < Lim := bits_lt (by unfold bitsOk at h; have := of_decide_eq_true h; omega)
  simp only [pkL]
  split
  · rw [List.length_cons]
    have := enc_lim (n := (-1 - i).toNat) (by omega)
    omega
  · rw [List.length_cons]
    have := enc_lim (n := i.toNat) (by omega)
    omega
theorem bad_int {i : Int} (h : bitsOk i = false) : Bad (.int i) := ⟨by simp [fits], fun n _ => by rw [okV_bits, h]⟩
theorem good_str {x : Str} (h : x.length ≤ 60000) (p : plainS x = true) : Good (.str x) := by
  refine ⟨by rw [okV_str, p, Bool.and_true]; exact decide_eq_true (by omega), ?_⟩
  have := enc_lim (enc_small_lim (show x.length ≤ 90000 by omega))
  simp only [pkL, List.length_cons, List.length_append, List.length_map]
  rw [← zlen]
  omega
theorem bad_str {x : Str} (h : x.length ≤ 90000) (p : 60000 < x.length ∨ plainS x = false) : Bad (.str x) := by
  refine ⟨by simp only [fits, decide_eq_true_eq]; exact h, fun n _ => ?_⟩
  rw [okV_str]
  rcases p with p | p
  · rw [decide_eq_false (by omega), Bool.false_and]
  · rw [p, Bool.and_false]
theorem okA_rep : ∀ (n k : Nat), okA n (List.replicate k .none) = true
  | _, 0 => by simp [okA]
  | n, k + 1 => by
    rw [List.replicate_succ]
    simp only [okA, okV_non, okA_rep n k, Bool.and_self]
theorem fitsA_rep : ∀ (k : Nat), fitsA (List.replicate k .none) = true
  | 0 => by simp [fitsA]
  | k + 1 => by
    rw [List.replicate_succ]
    simp [fitsA, fitsA_rep k, fits]
theorem pkA_rep : ∀ (k : Nat), (pkA (List.replicate k .none)).length = k
  | 0 => by simp [pkA]
  | k + 1 => by
    rw [List.replicate_succ]
    simp only [pkA, List.length_append, pkA_rep k, pkL, List.length_cons, List.length_nil]
    omega
theorem good_nones {k : Nat} (h : k ≤ 60000) : Good (.tuple (List.replicate k .none)) := by
  refine ⟨by rw [okV_tup, okA_rep, Bool.and_true, List.length_replicate]; exact decide_eq_true h, ?_⟩
  have := enc_lim (enc_small_lim (show k ≤ 90000 by omega))
  simp only [pkL, List.length_cons, List.length_append, List.length_replicate, pkA_rep]
  omega
theorem bad_nones {k : Nat} (h : k ≤ 90000) (p : 60000 < k) : Bad (.tuple (List.replicate k .none)) := by
  refine ⟨?_, fun n _ => ?_⟩
  · simp only [fits, List.length_replicate, fitsA_rep, Bool.and_true, decide_eq_true_eq]
    exact h
  · cases n with
    | zero => exact okV_tup0 _
    | succ n => rw [okV_tup, List.length_replicate, decide_eq_false (by omega), Bool.false_and]
theorem good_chain {m : Nat} {x : Str} (hm : m ≤ 20) (h : x.length ≤ 8) (p : plainS x = true) : Good (chainD m (.str x)) := by
  have g := good_str (show x.length ≤ 60000 by omega) p
  have hl : (pkL (.str x)).length ≤ 600 := by
    have := enc_lim (enc_small_lim (show x.length ≤ 90000 by omega))
    simp only [pkL, List.length_cons, List.length_append, List.length_map]
    rw [← zlen]
    omega
  refine ⟨?_, by rw [pk_chain]; omega⟩
  · rw [show 20 = (20 - m) + m by omega, okV_chain, okV_str, p, Bool.and_true]
    exact decide_eq_true (by omega)
theorem good_chain0 : Good (chainD 19 (.tuple [])) := by
  refine ⟨?_, ?_⟩
  · rw [show 20 = 1 + 19 by omega, okV_chain, okV_tup]
    simp [okA]
  · rw [pk_chain]
    have e : enc 0 = [0] := enc_small (n := 0) (by decide)
    simp [pkL, pkA, e]
theorem bad_chain {m : Nat} {x : Str} (hm : 20 < m) (h : x.length ≤ 8) : Bad (chainD m (.str x)) := ⟨fits_chain _ _ (by simp only [fits, decide_eq_true_eq]; omega), fun n hn => no_chain m n _ (by omega)⟩
theorem bad_chain0 {m : Nat} (hm : 20 ≤ m) : Bad (chainD m (.tuple [])) := ⟨fits_chain _ _ (by simp [fits, fitsA]), fun n hn => no_chain0 m n (by omega)⟩
theorem bad_lst : Bad (.list []) := ⟨by simp [fits], fun n _ => okV_lst n _⟩
/-- (word, bad) -/
theorem bad_snd {x : Str} {d : PyData} (h : x.length ≤ 8) (b : Bad d) : fits (.tuple [.str x, d]) = true ∧ okV 20 (.tuple [.str x, d]) = false := by
  refine ⟨?_, ?_⟩
  · have : x.length ≤ 90000 := by omega
    simp [fits, fitsA, b.1, this]
  · rw [okV_tup]
    simp [okA, b.2 19 (by decide)]
/-- ((bad, near), None) -/
theorem bad_fst {i : Int} {d : PyData} (b : Bad d) : fits (.tuple [.tuple [d, .int i], .none]) = true ∧ okV 20 (.tuple [.tuple [d, .int i], .none]) = false := by
  refine ⟨?_, ?_⟩
  · simp [fits, fitsA, b.1]
  · have e : okV 19 (.tuple [d, .int i]) = false := by
      rw [okV_tup]
      simp [okA, b.2 18 (by decide)]
    rw [okV_tup]
    simp [okA, e]
/-- the law's bound -/
theorem limits : ∃ N : Nat, 300 ≤ N ∧ (2 : Int) ^ (50 * 60) = (N : Int) ∧ ∀ i : Int, bitsOk i = decide (i.natAbs < N) := by
  refine ⟨2 ^ 3000, ?_, by rw [show 50 * 60 = 3000 by decide, Int.natCast_pow]; rfl, bits_iff⟩
  exact Nat.le_trans (show 300 ≤ 2 ^ 10 by decide) (Nat.pow_le_pow_right (by decide) (by decide))
theorem dxa_rep {K : PySem.W.Frag} {H : Hp} : ∀ k : Nat, DxAll K H (List.replicate k .non) (List.replicate k .none)
  | 0 => .nil
  | k + 1 => by
    rw [List.replicate_succ, List.replicate_succ]
    exact .cons .non (dxa_rep k)
theorem flat_one {α : Type} (x : α) : ∀ k : Nat, (List.replicate k [x]).flatten = List.replicate k x
  | 0 => rfl
  | k + 1 => by rw [List.replicate_succ, List.flatten_cons, flat_one x k, List.replicate_succ]; rfl
theorem as_len {m : Int} (h : 1 ≤ m) : (PySem.Txt.mul ("a" : Str) m).length = m.toNat := by
  rw [mul_len h]
  show m.toNat * 1 = _
  omega
theorem as_plain {m : Int} (h : 1 ≤ m) : plainS (PySem.Txt.mul ("a" : Str) m) = true := by
  unfold plainS
  rw [mul_list h, List.all_eq_true]
  intro c hc
  obtain ⟨l, hl, hcl⟩ := List.mem_flatten.mp hc
  rw [List.eq_of_mem_replicate hl] at hcl
  have : ("a" : Str).cps.toList.all plainC = true := by decide +kernel
  rw [List.all_eq_true] at this
  exact this c hcl
theorem good_as {m : Int} (h : 1 ≤ m) (h2 : m ≤ 60000) : Good (.str (PySem.Txt.mul ("a" : Str) m)) := good_str (by rw [as_len h]; omega) (as_plain h)
theorem bad_as {m : Int} (h : 60000 < m) (h2 : m ≤ 90000) : Bad (.str (PySem.Txt.mul ("a" : Str) m)) := bad_str (by rw [as_len (by omega)]; omega) (.inl (by rw [as_len (by omega)]; omega))
def sp_word (K : PySem.W.Frag) : Sp := fun vs H Q _ => ∃ (a : Addr) (ds : List Int), vs = [.ref a] ∧ SqL K H a (ds.map V.int) ∧ Drawn ds ∧ 1 ≤ ds.length ∧ ds.length ≤ 1000 ∧ ∀ x H', Same H H' → plainS x = true → x.length ≤ 8 → Q (.str x) H'
section
variable {P : Program} {w : World} {K : PySem.W.Frag} {mg : Str → Option Value} {base : Heap}
theorem ok__law_word (T : TX K mg) : FnOk P w K mg base CX0 2 T.a__law_word T.d__law_word ["draws"] (sp_word K) := by
  refine T.F__law_word.ok sc__law_word (fun vs H Q E h => ?_) (fun cdv A outer s H vs Q E hr h => ?_)
  · obtain ⟨a, ds, rfl, _⟩ := h
    rfl
  · obtain ⟨a, ds, rfl, hS, hd, hl, hl2, q⟩ := h
    refine ⟨_, (pss_one (ps_ret (pe_join pe_str (pe_lc (own := [("draw", 1)]) (g := gName 1) (tt := tYes) (by rfl) sc__law_word.nd (pi_list (pe_slice sl_list (pv 0) (po_some pe_int) (po_some (pe_op op_add pe_int (pe_op op_mod (pe_callTy call_int1 (by rfl) T.n_int (by decide +kernel) (pa_cons (pe_ix ix_list (pv 0) pe_int (fun _ _ => rfl)) pa_nil)) pe_int))))) (blkOk_by (own := [("draw", 1)]) (N := ["draws", "draw"]) (sc := defScope s__law_word) (by decide +kernel)) (fun _ _ _ _ _ => pg_name (i := 1) sc__law_word.nd rfl (Or.inl rfl)) (fun _ _ _ _ _ => pts_nil) (fun _ _ _ _ _ => (pe_call (ok__law_char T) (hr.mono (by decide)) (by rfl) T.g__law_char T.F__law_char.kp T.b__law_char .nil pass0 (pa_cons (pv 1) pa_nil))))))), ?_⟩
    have hb0 := hd ds[0] (List.getElem_mem (by omega))
    have g0 : atI (ds.map V.int) ((0 : Nat) : Int) = some (.int ds[0]) := at_map (List.getElem?_eq_getElem (by omega))
    obtain ⟨j, hj⟩ : ∃ j : Nat, (1 : Int) + ds[0] % 9 = (j : Int) := ⟨((1 : Int) + ds[0] % 9).toNat, by omega⟩
    have l1 : ((ds.drop 1).take (j - 1)).length ≤ 8 := by rw [List.length_take, List.length_drop]; omega
    refine ⟨⟨_, rfl⟩, ?_⟩
    refine ⟨_, rfl, 1, rfl, _, rfl, a, _, ((0 : Nat) : Int), .int ds[0], rfl, rfl, hS, g0, .inl ⟨_, rfl, _, _, rfl, rfl, (by show (0 : Int) < _; decide), _, _, rfl, rfl, _, rfl, a, _, rfl, hS, fun p hp => ?_⟩⟩
    dsimp only
    rw [cut_ints ds (i := 1) (j := j) (a := 1) rfl hj]
    have s1 := same_upd (o := .lst (((ds.drop 1).take (j - 1)).map V.int)) hp
    have ep : (upd H p (.lst (((ds.drop 1).take (j - 1)).map V.int))) p = some (.lst (((ds.drop 1).take (j - 1)).map V.int)) := upd_same
    generalize (ds.drop 1).take (j - 1) = part at l1 s1 ep
    generalize upd H p (.lst (part.map V.int)) = G1 at s1 ep
    refine ⟨p, rfl, ⟨_, sql ep⟩, fun D hD => ?_⟩
    refine lc_it (walk_list (K := K) (a := p) (xs := part.map V.int)) (fun i G => Same G1 G ∧ ∃ cs : List Nat, G D = some (.lst ((cs.map fun c => (⟨#[c]⟩ : Str)).map V.str)) ∧ (∀ c ∈ cs, plainC c = true) ∧ cs.length = i) ⟨same_upd hD, [], upd_same, (fun _ z => by cases z), rfl⟩ (fun i G _ h => h.1.seq (sql ep)) ?_ ?_
    · rintro i x G G' hi ⟨s2, cs, e2, hp2, hl3⟩ ⟨rfl, hx⟩
      rw [List.length_map] at hi
      obtain ⟨z, hz, rfl⟩ := map_at hx
      refine ⟨rfl, ?_⟩
      dsimp only [tYes]
      refine (if_pos rfl).mpr ?_
      refine ⟨_, rfl, z, rfl, fun c hc => ⟨_, e2, szl (by rw [List.length_map, List.length_map]; omega), same_put s2 hD, cs ++ [c], ?_, ?_, by rw [List.length_append, hl3]; rfl⟩⟩
      · rw [upd_same, List.map_append, List.map_append]; rfl
      · intro y hy
        rcases List.mem_append.mp hy with w | w
        · exact hp2 y w
        · rw [List.mem_singleton] at w
          rw [w]
          exact hc
    · rintro G ⟨s2, cs, e2, hp2, hl3⟩
      rw [List.length_map] at hl3
      refine ⟨"", D, cs.map fun c => (⟨#[c]⟩ : Str), rfl, rfl, .inl (sql e2), ?_, ?_⟩
      · rw [signs_len, List.length_map]
        show cs.length + cs.length * 0 ≤ _
        omega
      rw [join_signs]
      refine q _ _ (s1.trans s2) ?_ ?_
      · unfold plainS
        rw [List.all_eq_true]
        exact fun x hx => hp2 x (by simpa using hx)
      · show cs.toArray.size ≤ 8
        rw [List.size_toArray]
        omega
end
end My
namespace My
open PySem PySem.Spec PyProof.Rows L2
theorem cutn0 (xs : List V) (i : Nat) : cutV xs (some (i : Int)) none = xs.drop i := by
  unfold cutV
  rw [sIx_le]
  show (xs.drop (min i xs.length)).take (xs.length - min i xs.length) = _
  rcases Nat.le_total i xs.length with h | h
  · rw [Nat.min_eq_left h, List.take_of_length_le (by rw [List.length_drop]; omega)]
  · rw [Nat.min_eq_right h, Nat.sub_self, List.take_zero, List.drop_of_length_le h]
theorem strange3 (d : Int) : ∃ st : Str, atI [V.str "\n", V.str "\t", V.str "\t\n"] (d % 3) = some (.str st) ∧ plainS st = false ∧ st.length ≤ 2 := by
  have h : d % 3 = 0 ∨ d % 3 = 1 ∨ d % 3 = 2 := by omega
  rcases h with h | h | h
  · rw [h]; exact ⟨"\n", rfl, by decide +kernel, by decide +kernel⟩
  · rw [h]; exact ⟨"\t", rfl, by decide +kernel, by decide +kernel⟩
  · rw [h]; exact ⟨"\t\n", rfl, by decide +kernel, by decide +kernel⟩
def sp_law (K : PySem.W.Frag) : Sp := fun vs H Q _ => ∃ (a : Addr) (ns : List Int), vs = [.ref a] ∧ SqL K H a (ns.map V.int) ∧ ns.length ≤ 63 ∧ ∀ H', Q (.bl true) H'
theorem par {B H : Hp} {gp p : Addr} {o : HO} (o' : HO) (s : Same B H) (hb : B gp = none) (hg : H gp = some o) (hp : H p = none) :
    Same (upd B p o') (upd H p o') ∧ (upd B p o') gp = none ∧ (upd H p o') gp = some o ∧ Same B (upd B p o') ∧ Same H (upd H p o') := by
  have ne : gp ≠ p := fun z => by rw [z, hp] at hg; cases hg
  exact ⟨same_both s, by rw [upd_ne ne]; exact hb, by rw [upd_ne ne]; exact hg, same_upd (none_of s hp), same_upd hp⟩
/-- the two lists and what they hold -/
structure Two (n : Nat) (K : PySem.W.Frag) (B H : Hp) (gp bp : Addr) (gs bs : List V) (dg db : List PyData) : Prop where
  sa : Same B H
  g0 : B gp = none
  b0 : B bp = none
  g : H gp = some (.lst gs)
  b : H bp = some (.lst bs)
  ga : DxAll K B gs dg
  ba : DxAll K B bs db
  gg : ∀ d ∈ dg, Good d
  bb : ∀ d ∈ db, Bad d
  ne : gp ≠ bp
  gl : gs.length ≤ n
  bl : bs.length ≤ n
theorem dxa_snoc {K : PySem.W.Frag} {H : Hp} {v : V} {d : PyData} : ∀ {vs : List V} {ds : List PyData}, DxAll K H vs ds → Dx K H v d → DxAll K H (vs ++ [v]) (ds ++ [d])
  | _, _, .nil, h => .cons h .nil
  | _, _, .cons a r, h => .cons a (dxa_snoc r h)
section
variable {n : Nat} {K : PySem.W.Frag} {B H B' H' : Hp} {gp bp p : Addr} {gs bs : List V} {dg db : List PyData} {v : V} {d : PyData}
theorem Two.grow (t : Two n K B H gp bp gs bs dg db) (s : Same B B') (h : Same H H') (r : Same B' H') (x : ∀ a, H a ≠ none → B a = none → B' a = none) : Two n K B' H' gp bp gs bs dg db :=
  ⟨r, x gp (by rw [t.g]; simp) t.g0, x bp (by rw [t.b]; simp) t.b0, h _ _ t.g, h _ _ t.b, dxa_same s _ t.ga, dxa_same s _ t.ba, t.gg, t.bb, t.ne, t.gl, t.bl⟩
theorem Two.new (t : Two n K B H gp bp gs bs dg db) (h : H p = none) (o : HO) : Two n K (upd B p o) (upd H p o) gp bp gs bs dg db :=
  t.grow (same_upd (none_of t.sa h)) (same_upd h) (same_both t.sa) fun a h1 h2 => by
    rw [upd_ne (fun z => h1 (by rw [z]; exact h))]
    exact h2
theorem Two.addG (t : Two n K B H gp bp gs bs dg db) (hd : Dx K B v d) (g : Good d) : Two (n + 1) K B (upd H gp (.lst (gs ++ [v]))) gp bp (gs ++ [v]) bs (dg ++ [d]) db :=
  ⟨same_put t.sa t.g0, t.g0, t.b0, upd_same, by rw [upd_ne (Ne.symm t.ne)]; exact t.b, dxa_snoc t.ga hd, t.ba, fun e he => (List.mem_append.mp he).elim (t.gg e) fun z => by rw [List.mem_singleton] at z; rw [z]; exact g, t.bb, t.ne,
    by rw [List.length_append]; exact Nat.succ_le_succ t.gl, Nat.le_succ_of_le t.bl⟩
theorem Two.addB (t : Two n K B H gp bp gs bs dg db) (hd : Dx K B v d) (g : Bad d) : Two (n + 1) K B (upd H bp (.lst (bs ++ [v]))) gp bp gs (bs ++ [v]) dg (db ++ [d]) :=
  ⟨same_put t.sa t.b0, t.g0, t.b0, by rw [upd_ne t.ne]; exact t.g, upd_same, t.ga, dxa_snoc t.ba hd, t.gg, fun e he => (List.mem_append.mp he).elim (t.bb e) fun z => by rw [List.mem_singleton] at z; rw [z]; exact g, t.ne,
    Nat.le_succ_of_le t.gl, by rw [List.length_append]; exact Nat.succ_le_succ t.bl⟩
theorem Two.more {m : Nat} (t : Two n K B H gp bp gs bs dg db) (h : n ≤ m) : Two m K B H gp bp gs bs dg db := ⟨t.sa, t.g0, t.b0, t.g, t.b, t.ga, t.ba, t.gg, t.bb, t.ne, Nat.le_trans t.gl h, Nat.le_trans t.bl h⟩
end
section
variable {P : Program} {w : World} {K : PySem.W.Frag} {mg : Str → Option Value} {base : Heap}
theorem ok_law (T : TX K mg) : FnOk P w K mg base CX0 26 T.a_law T.d_law ["script"] (sp_law K) := by
  refine T.F_law.ok sc_law (fun vs H Q E h => ?_) (fun cdv A outer s H vs Q E hr h => ?_)
  · obtain ⟨a, ns, rfl, _⟩ := h
    rfl
  · obtain ⟨a, ns, rfl, hS, hl, q⟩ := h
    refine ⟨_, (pss_cons (ps_set (i := 1) sc_law.nd rfl (Or.inl rfl) (pe_call (ok__law_draws T) (hr.mono (by decide)) (by rfl) T.g__law_draws T.F__law_draws.kp T.b__law_draws .nil pass0 (pa_cons (pv 0) (pa_cons pe_int pa_nil))))
      (pss_cons (ps_set (i := 2) sc_law.nd rfl (Or.inl rfl) pe_int)
      (pss_cons (ps_for PassesOwn.never rfl (pi_range1 (by rfl) T.n_range (pa_cons pe_int pa_nil)) (pg_name (i := 3) sc_law.nd rfl (Or.inl rfl))
        (pss_one (ps_set (i := 2) sc_law.nd rfl (Or.inl rfl) (pe_op op_mul (pv 2) (pe_op op_pow pe_int pe_int)))))
      (pss_cons (ps_set (i := 4) sc_law.nd rfl (Or.inl rfl) (pe_op op_mod (pe_ix ix_list (pv 1) pe_int (fun _ _ => rfl)) pe_int))
      (pss_cons (ps_set (i := 5) sc_law.nd rfl (Or.inl rfl) (pe_call (ok__law_word T) (hr.mono (by decide)) (by rfl) T.g__law_word T.F__law_word.kp T.b__law_word .nil pass0 (pa_cons (pv 1) pa_nil)))
      (pss_cons (ps_set (i := 6) sc_law.nd rfl (Or.inl rfl) (pe_call (ok__law_word T) (hr.mono (by decide)) (by rfl) T.g__law_word T.F__law_word.kp T.b__law_word .nil pass0 (pa_cons (pe_slice sl_list (pv 1) (po_some pe_int) po_none) pa_nil)))
      (pss_cons (ps_set (i := 7) sc_law.nd rfl (Or.inl rfl) (pe_ix ix_list (pe_lst (pa_cons pe_str (pa_cons pe_str (pa_cons pe_str pa_nil)))) (pe_op op_mod (pe_ix ix_list (pv 1) pe_int (fun _ _ => rfl)) pe_int) (fun _ _ => rfl)))
      (pss_cons (ps_set (i := 8) sc_law.nd rfl (Or.inl rfl) (pe_lst (pa_cons (pe_op op_sub (pe_op op_sub (pv 2) pe_int) (pv 4)) (pa_cons (pe_op op_sub (pe_op op_add (pv 4) pe_int) (pv 2)) (pa_cons (pe_call (ok__law_chain T) (hr.mono (by decide)) (by rfl) T.g__law_chain T.F__law_chain.kp T.b__law_chain .nil pass0 (pa_cons (pv 5) (pa_cons pe_int pa_nil))) (pa_cons (pe_op op_add_str (pv 5) (pv 6)) (pa_cons pe_str (pa_cons pe_str (pa_cons pe_bl (pa_cons (pe_call (ok__law_chain T) (hr.mono (by decide)) (by rfl) T.g__law_chain T.F__law_chain.kp T.b__law_chain .nil pass0 (pa_cons (pe_tup pa_nil) (pa_cons pe_int pa_nil))) pa_nil))))))))))
      (pss_cons (ps_set (i := 9) sc_law.nd rfl (Or.inl rfl) (pe_lst (pa_cons (pe_op op_add (pv 2) (pv 4)) (pa_cons (pe_op op_sub (pe_op op_sub pe_int (pv 2)) (pv 4)) (pa_cons (pe_call (ok__law_chain T) (hr.mono (by decide)) (by rfl) T.g__law_chain T.F__law_chain.kp T.b__law_chain .nil pass0 (pa_cons (pv 5) (pa_cons (pe_op op_add pe_int (pe_op op_mod (pv 4) pe_int)) pa_nil))) (pa_cons (pe_op op_add_str (pe_op op_add_str (pv 5) (pv 7)) (pv 6)) (pa_cons (pe_lst (pa_cons (pv 4) pa_nil)) (pa_cons pe_dnewK (pa_cons (pe_lst pa_nil) (pa_cons (pe_disp (pps_cons (pv 5) pe_int pps_nil) rfl rfl (by simp) (by decide)) pa_nil))))))))))
      (pss_cons (ps_expr (pe_bm PySem.F.plainAttrs_list PySem.F.slot_list_append PySem.F.type_list_append mt_append (pv 9) (pa_cons (pe_call (ok__law_chain T) (hr.mono (by decide)) (by rfl) T.g__law_chain T.F__law_chain.kp T.b__law_chain .nil pass0 (pa_cons (pe_tup pa_nil) (pa_cons (pe_op op_add pe_int (pe_op op_mod (pv 4) pe_int)) pa_nil))) pa_nil)))
      (C8.pss_cut (ps_if (pt_cmpR op_eq (pe_op op_mod (pe_ix ix_list (pv 1) pe_int (fun _ _ => rfl)) pe_int) pe_int (nomark _)) (pss_cons (ps_expr (pe_bm PySem.F.plainAttrs_list PySem.F.slot_list_append PySem.F.type_list_append mt_append (pv 8) (pa_cons (pe_op op_repS pe_str (pe_op op_add pe_int (pe_op op_mod (pv 4) pe_int))) pa_nil)))
        (pss_cons (ps_expr (pe_bm PySem.F.plainAttrs_list PySem.F.slot_list_append PySem.F.type_list_append mt_append (pv 9) (pa_cons (pe_op op_repS pe_str (pe_op op_add pe_int (pe_op op_mod (pv 4) pe_int))) pa_nil)))
        (pss_cons (ps_expr (pe_bm PySem.F.plainAttrs_list PySem.F.slot_list_append PySem.F.type_list_append mt_append (pv 8) (pa_cons (pe_op op_repG (pe_tup (pa_cons pe_non pa_nil)) (pe_op op_add pe_int (pe_op op_mod (pv 4) pe_int))) pa_nil)))
        (pss_one (ps_expr (pe_bm PySem.F.plainAttrs_list PySem.F.slot_list_append PySem.F.type_list_append mt_append (pv 9) (pa_cons (pe_op op_repG (pe_tup (pa_cons pe_non pa_nil)) (pe_op op_add pe_int (pe_op op_mod (pv 4) pe_int))) pa_nil))))))) pss_nil)
      (pss_cons (ps_for PassesOwn.never rfl (pi_list (pv 8)) (pg_name (i := 10) sc_law.nd rfl (Or.inl rfl))
        (pss_one (ps_if (pt_not (pt_truth (pe_call (ok__law_accepted T) (hr.mono (by decide)) (by rfl) T.g__law_accepted T.F__law_accepted.kp T.b__law_accepted .nil pass0 (pa_cons (pv 10) pa_nil)) (by intro _; rfl))) (pss_one (ps_ret pe_bl)) pss_nil)))
      (pss_cons (ps_for PassesOwn.never rfl (pi_list (pv 9)) (pg_name (i := 10) sc_law.nd rfl (Or.inl rfl))
        (pss_one (ps_if (PW.pt (pw_or (pt_not (pt_truth (pe_call (ok__law_refused T) (hr.mono (by decide)) (by rfl) T.g__law_refused T.F__law_refused.kp T.b__law_refused .nil pass0 (pa_cons (pv 10) pa_nil)) (by intro _; rfl))) (pw_or (pt_not (pt_truth (pe_call (ok__law_refused T) (hr.mono (by decide)) (by rfl) T.g__law_refused T.F__law_refused.kp T.b__law_refused .nil pass0 (pa_cons (pe_tup (pa_cons (pv 5) (pa_cons (pv 10) pa_nil))) pa_nil)) (by intro _; rfl))) (pw_or1 (pt_not (pt_truth (pe_call (ok__law_refused T) (hr.mono (by decide)) (by rfl) T.g__law_refused T.F__law_refused.kp T.b__law_refused .nil pass0 (pa_cons (pe_tup (pa_cons (pe_tup (pa_cons (pv 10) (pa_cons (pv 4) pa_nil))) (pa_cons pe_non pa_nil))) pa_nil)) (by intro _; rfl))))))) (pss_one (ps_ret pe_bl)) pss_nil)))
      (pss_one (ps_ret pe_bl))))))))))))))), ?_⟩
    refine ⟨_, rfl, a, ns, 60, rfl, hS, hl, by decide, fun pd H1 ds _ s1 ed hd hdl => ?_⟩
    -- the bound
    refine ⟨60, rfl, by decide, by decide, for_range (lo := 0) (n := 60) (fun i σ G => H1 = G ∧ ∃ (L : Int) (x3 : Option V), L = 2 ^ (50 * i) ∧ σ = [some (.ref a), some (.ref pd), some (.int L), x3, none, none, none, none, none, none, none]) ⟨rfl, 1, none, rfl, rfl⟩ ?_ ?_⟩
    · rintro i σ _ hi ⟨rfl, L, x3, hL, rfl⟩
      refine ⟨_, rfl, _, _, rfl, rfl, ⟨by decide, by decide, by decide⟩, _, _, rfl, rfl, .inr ⟨by decide, by decide⟩, rfl, L * 2 ^ 50, some (.int (0 + (i : Int))), ?_, rfl⟩
      rw [show 50 * (i + 1) = 50 * i + 50 by omega, Int.pow_add, hL]
    rintro σ _ ⟨rfl, L, x3, hL, rfl⟩
    obtain ⟨N, hN, hL2, hbits⟩ := limits
    have hL3 : L = (N : Int) := hL.trans hL2
    clear hL hL2
    subst hL3
    have gt : ∀ {k : Nat} (h : k < ds.length), atI (ds.map V.int) (k : Int) = some (.int ds[k]) := fun h => at_map (List.getElem?_eq_getElem h)
    -- near
    obtain ⟨nr, hnr, hn3⟩ : ∃ nr : Nat, ds[0] % 300 = (nr : Int) ∧ nr < 300 := ⟨(ds[0] % 300).toNat, by omega, by omega⟩
    refine ⟨_, rfl, pd, _, ((0 : Nat) : Int), .int ds[0], rfl, rfl, sql ed, gt (by omega), _, _, rfl, rfl, (by show (0 : Int) < _; decide), ?_⟩
    dsimp only
    rw [hnr]
    -- the words
    refine ⟨_, rfl, pd, ds, rfl, sql ed, hd, by omega, by omega, fun word H2 s2 hw hwl => ?_⟩
    have ed2 := s2 _ _ ed
    refine ⟨_, rfl, 10, rfl, pd, _, rfl, sql ed2, fun p hp => ?_⟩
    have hcut : cutV (ds.map V.int) (some 10) none = (ds.drop 10).map V.int := by rw [List.map_drop]; exact cutn0 _ 10
    rw [hcut]
    refine ⟨p, ds.drop 10, rfl, sql upd_same, fun d h => hd d (List.mem_of_mem_drop h), by rw [List.length_drop]; omega, by rw [List.length_drop]; omega, fun other H3 s3 how hol => ?_⟩
    have ed3 := s3 _ _ (same_upd hp _ _ ed2)
    -- strange
    obtain ⟨st, hst, hsp, hsl⟩ := strange3 ds[1]
    refine ⟨(by show 3 ≤ sizeLine; decide), fun p3 hp3 => ?_⟩
    have ed4 := same_upd (o := .lst [V.str "\n", V.str "\t", V.str "\t\n"]) hp3 _ _ ed3
    refine ⟨_, rfl, pd, _, ((1 : Nat) : Int), .int ds[1], rfl, rfl, sql ed4, gt (by omega), _, _, rfl, rfl, (by show (0 : Int) < _; decide), p3, _, _, .str st, rfl, rfl, sql upd_same, hst, ?_⟩
    generalize upd H3 p3 (.lst [V.str "\n", V.str "\t", V.str "\t\n"]) = H4 at ed4
    -- good
    have hg1 : bitsOk ((N : Int) - 1 - (nr : Int)) = true := by rw [hbits]; exact decide_eq_true (by omega)
    have hg2 : bitsOk ((nr : Int) + 1 - (N : Int)) = true := by rw [hbits]; exact decide_eq_true (by omega)
    have hb1 : bitsOk ((N : Int) + (nr : Int)) = false := by rw [hbits]; exact decide_eq_false (by omega)
    have hb2 : bitsOk (0 - (N : Int) - (nr : Int)) = false := by rw [hbits]; exact decide_eq_false (by omega)
    refine ⟨_, rfl, _, _, rfl, rfl, _, rfl, _, _, rfl, rfl, _, rfl, _, _, rfl, rfl, _, rfl, _, _, rfl, rfl, _, rfl, .str word, .str word, 20, H4, rfl, by decide, Same.refl _, .str _, fun c1 H5 B5 s5 _ k5 _ hc1 => ?_⟩
    have hc1 := dx_same k5 _ hc1
    have ed5 := s5 _ _ ed4
    refine ⟨_, rfl, _, rfl, word, other, rfl, rfl, sz (by omega), (by show 0 ≤ sizeLine; decide), fun pt hpt => ?_⟩
    refine ⟨.ref pt, .tuple [], 19, upd H5 pt (.tup []), rfl, by decide, Same.refl _, .tup upd_same .nil, fun c2 H6 B6 s6 _ k6 _ hc2 => ?_⟩
    have hc2 := dx_same k6 _ hc2
    have s56 : Same H5 H6 := (same_upd hpt).trans s6
    have hc1 := dx_same s56 _ hc1
    have ed6 := s56 _ _ ed5
    have hga : DxAll K H6 [.int ((N : Int) - 1 - (nr : Int)), .int ((nr : Int) + 1 - (N : Int)), c1, .str (word ++ other), .str "~", .str " ", .bl true, c2] [.int ((N : Int) - 1 - (nr : Int)), .int ((nr : Int) + 1 - (N : Int)), chainD 20 (.str word), .str (word ++ other), .str "~", .str " ", .bool true, chainD 19 (.tuple [])] :=
      .cons (.int _) (.cons (.int _) (.cons hc1 (.cons (.str _) (.cons (.str _) (.cons (.str _) (.cons (.bl _) (.cons hc2 .nil)))))))
    have hgg : ∀ d ∈ [PyData.int ((N : Int) - 1 - (nr : Int)), .int ((nr : Int) + 1 - (N : Int)), chainD 20 (.str word), .str (word ++ other), .str "~", .str " ", .bool true, chainD 19 (.tuple [])], Good d := fun d hd => by
      simp only [List.mem_cons, List.not_mem_nil, or_false] at hd
      rcases hd with rfl | rfl | rfl | rfl | rfl | rfl | rfl | rfl
      · exact good_int hg1
      · exact good_int hg2
      · exact good_chain (by decide) hwl hw
      · exact good_str (by rw [app_len]; omega) (by rw [plain_app, hw, how]; rfl)
      · exact good_str (by decide +kernel) (by decide +kernel)
      · exact good_str (by decide +kernel) (by decide +kernel)
      · exact ⟨okV_bl 20 true, by simp [pkL]⟩
      · exact good_chain0
    refine ⟨(by show 8 ≤ sizeLine; decide), fun gp hgp => ?_⟩
    have egp : (upd H6 gp (.lst [.int ((N : Int) - 1 - (nr : Int)), .int ((nr : Int) + 1 - (N : Int)), c1, .str (word ++ other), .str "~", .str " ", .bl true, c2])) gp = some (.lst [.int ((N : Int) - 1 - (nr : Int)), .int ((nr : Int) + 1 - (N : Int)), c1, .str (word ++ other), .str "~", .str " ", .bl true, c2]) := upd_same
    have s67 : Same H6 (upd H6 gp (.lst [.int ((N : Int) - 1 - (nr : Int)), .int ((nr : Int) + 1 - (N : Int)), c1, .str (word ++ other), .str "~", .str " ", .bl true, c2])) := same_upd hgp
    have ed7 := s67 _ _ ed6
    generalize upd H6 gp (.lst [.int ((N : Int) - 1 - (nr : Int)), .int ((nr : Int) + 1 - (N : Int)), c1, .str (word ++ other), .str "~", .str " ", .bl true, c2]) = H7 at egp s67 ed7
    -- bad
    refine ⟨_, rfl, _, rfl, _, _, rfl, rfl, _, rfl, _, _, rfl, rfl, _, rfl, _, _, rfl, rfl, ?_⟩
    refine ⟨_, rfl, _, rfl, _, _, rfl, rfl, (by show (0 : Int) < _; decide), _, _, rfl, rfl, .str word, .str word, 21 + nr % 3, H6, congrArg (fun z => [V.str word, V.int z]) (by omega), by omega, s67, .str _, fun c3 H8 B8 s8 t6 k8 x8 hc3 => ?_⟩
    have gB8 : B8 gp = none := x8 gp (by rw [egp]; simp) hgp
    have ed8 := s8 _ _ ed7
    have eg8 := s8 _ _ egp
    refine ⟨_, rfl, _, rfl, word, st, rfl, rfl, sz (by omega), _, rfl, word ++ st, other, rfl, rfl, sz (by rw [app_len]; omega), _, rfl, (by show 1 ≤ sizeLine; decide), fun p5 h5 => ?_⟩
    obtain ⟨k9, gB9, eg9, t9, t9'⟩ := par (.lst [.int (nr : Int)]) k8 gB8 eg8 h5
    have q5 : (upd B8 p5 (.lst [.int (nr : Int)])) p5 = some (.lst [.int (nr : Int)]) := upd_same
    have ed9 := t9' _ _ ed8
    generalize upd H8 p5 (.lst [.int (nr : Int)]) = H9 at k9 eg9 ed9 t9'
    generalize upd B8 p5 (.lst [.int (nr : Int)]) = B9 at k9 gB9 t9 q5
    refine fun p6 h6 => ?_
    obtain ⟨k10, gB10, eg10, t10, t10'⟩ := par (.dK []) k9 gB9 eg9 h6
    have q6 : (upd B9 p6 (.dK [])) p6 = some (.dK []) := upd_same
    have ed10 := t10' _ _ ed9
    generalize upd H9 p6 (.dK []) = H10 at k10 eg10 ed10 t10'
    generalize upd B9 p6 (.dK []) = B10 at k10 gB10 t10 q6
    refine ⟨(by show 0 ≤ sizeLine; decide), fun p7 h7 => ?_⟩
    obtain ⟨k11, gB11, eg11, t11, t11'⟩ := par (.lst []) k10 gB10 eg10 h7
    have q7 : (upd B10 p7 (.lst [])) p7 = some (.lst []) := upd_same
    have ed11 := t11' _ _ ed10
    generalize upd H10 p7 (.lst []) = H11 at k11 eg11 ed11 t11'
    generalize upd B10 p7 (.lst []) = B11 at k11 gB11 t11 q7
    refine fun p8 h8 => ?_
    have n8 := none_of k11 h8
    have ne8 : gp ≠ p8 := fun z => by rw [z, h8] at eg11; cases eg11
    have nd8 : pd ≠ p8 := fun z => by rw [z, h8] at ed11; cases ed11
    refine ⟨_, rfl, upd_same, [(.inr word, .int 1)], rfl, (by show 1 ≤ 15; decide), ?_⟩
    have k12 : Same (upd (upd B11 p8 (.dK [])) p8 (.dK (mergeK [] [(.inr word, .int 1)]))) (upd (upd H11 p8 (.dK [])) p8 (.dK (mergeK [] [(.inr word, .int 1)]))) := same_both (same_both k11)
    have gB12 : (upd (upd B11 p8 (.dK [])) p8 (.dK (mergeK [] [(.inr word, .int 1)]))) gp = none := by rw [upd_ne ne8, upd_ne ne8]; exact gB11
    have eg12 := (upd_ne (H := upd H11 p8 (.dK [])) (o := .dK (mergeK [] [(.inr word, .int 1)])) ne8).trans ((upd_ne (H := H11) (o := .dK []) ne8).trans eg11)
    have ed12 := (upd_ne (H := upd H11 p8 (.dK [])) (o := .dK (mergeK [] [(.inr word, .int 1)])) nd8).trans ((upd_ne (H := H11) (o := .dK []) nd8).trans ed11)
    have t12 : Same B11 (upd (upd B11 p8 (.dK [])) p8 (.dK (mergeK [] [(.inr word, .int 1)]))) := same_put (same_upd n8) n8
    have q8 : (upd (upd B11 p8 (.dK [])) p8 (.dK (mergeK [] [(.inr word, .int 1)]))) p8 = some (.dK (mergeK [] [(.inr word, .int 1)])) := upd_same
    generalize upd (upd H11 p8 (.dK [])) p8 (.dK (mergeK [] [(.inr word, .int 1)])) = H12 at k12 eg12 ed12
    generalize upd (upd B11 p8 (.dK [])) p8 (.dK (mergeK [] [(.inr word, .int 1)])) = B12 at k12 gB12 t12 q8
    have hba : DxAll K B12 [.int ((N : Int) + (nr : Int)), .int (0 - (N : Int) - (nr : Int)), c3, .str (word ++ st ++ other), .ref p5, .ref p6, .ref p7, .ref p8] [.int ((N : Int) + (nr : Int)), .int (0 - (N : Int) - (nr : Int)), chainD (21 + nr % 3) (.str word), .str (word ++ st ++ other), .list [], .list [], .list [], .list []] := by
      have u9 := t10.trans (t11.trans t12)
      exact .cons (.int _) (.cons (.int _) (.cons (dx_same (t9.trans u9) _ hc3) (.cons (.str _) (.cons (.lst (u9 _ _ q5)) (.cons (.dic ((t11.trans t12) _ _ q6)) (.cons (.lst (t12 _ _ q7)) (.cons (.dic q8) .nil)))))))
    have hbb : ∀ d ∈ [PyData.int ((N : Int) + (nr : Int)), .int (0 - (N : Int) - (nr : Int)), chainD (21 + nr % 3) (.str word), .str (word ++ st ++ other), .list [], .list [], .list [], .list []], Bad d := fun d hd => by
      simp only [List.mem_cons, List.not_mem_nil, or_false] at hd
      rcases hd with rfl | rfl | rfl | rfl | rfl | rfl | rfl | rfl
      · exact bad_int hb1
      · exact bad_int hb2
      · exact bad_chain (by omega) hwl
      · exact bad_str (by rw [app_len, app_len]; omega) (.inr (by rw [plain_app, plain_app, hsp, Bool.and_false, Bool.false_and]))
      all_goals exact bad_lst
    refine ⟨(by show 8 ≤ sizeLine; decide), fun bp hbp => ?_⟩
    have npd : pd ≠ bp := fun z => by rw [z, hbp] at ed12; cases ed12
    have nbg : gp ≠ bp := fun z => by rw [z, hbp] at eg12; cases eg12
    have s6B : Same H6 B12 := t6.trans (t9.trans (t10.trans (t11.trans t12)))
    have two : Two 8 K B12 (upd H12 bp (.lst [.int ((N : Int) + (nr : Int)), .int (0 - (N : Int) - (nr : Int)), c3, .str (word ++ st ++ other), .ref p5, .ref p6, .ref p7, .ref p8])) gp bp _ _ _ _ :=
      ⟨same_put k12 (none_of k12 hbp), gB12, none_of k12 hbp, by rw [upd_ne nbg]; exact eg12, upd_same, dxa_same s6B _ hga, hba, hgg, hbb, nbg, (by show 8 ≤ 8; decide), (by show 8 ≤ 8; decide)⟩
    have ed13 : (upd H12 bp (.lst [.int ((N : Int) + (nr : Int)), .int (0 - (N : Int) - (nr : Int)), c3, .str (word ++ st ++ other), .ref p5, .ref p6, .ref p7, .ref p8])) pd = _ := same_upd hbp _ _ ed12
    generalize upd H12 bp (.lst [.int ((N : Int) + (nr : Int)), .int (0 - (N : Int) - (nr : Int)), c3, .str (word ++ st ++ other), .ref p5, .ref p6, .ref p7, .ref p8]) = H13 at two ed13
    generalize [V.int ((N : Int) - 1 - (nr : Int)), .int ((nr : Int) + 1 - (N : Int)), c1, .str (word ++ other), .str "~", .str " ", .bl true, c2] = gs at two
    generalize [V.int ((N : Int) + (nr : Int)), .int (0 - (N : Int) - (nr : Int)), c3, .str (word ++ st ++ other), .ref p5, .ref p6, .ref p7, .ref p8] = bs at two
    generalize [PyData.int ((N : Int) - 1 - (nr : Int)), .int ((nr : Int) + 1 - (N : Int)), chainD 20 (.str word), .str (word ++ other), .str "~", .str " ", .bool true, chainD 19 (.tuple [])] = dg at two
    generalize [PyData.int ((N : Int) + (nr : Int)), .int (0 - (N : Int) - (nr : Int)), chainD (21 + nr % 3) (.str word), .str (word ++ st ++ other), .list [], .list [], .list [], .list []] = db at two
    -- bad.append(chain)
    refine ⟨_, rfl, .inl ⟨rfl, _, sql two.b⟩, (by show 0 ≤ sizeLine; decide), fun pt2 hpt2 => ?_⟩
    have tw2 := two.new hpt2 (.tup [])
    refine ⟨_, rfl, _, _, rfl, rfl, (by show (0 : Int) < _; decide), _, _, rfl, rfl, .ref pt2, .tuple [], 20 + nr % 3, upd B12 pt2 (.tup []), congrArg (fun z => [V.ref pt2, V.int z]) (by omega), by omega, tw2.sa, .tup upd_same .nil, fun c4 H14 B14 s14 t14 k14 x14 hc4 => ?_⟩
    have tw3 := tw2.grow t14 s14 k14 x14
    refine ⟨bp, bs, c4, rfl, rfl, tw3.b, szl (by have := tw3.bl; omega), ?_⟩
    have tw4 := tw3.addB hc4 (bad_chain0 (by omega))
    have ed14 := s14 _ _ (same_upd hpt2 (o := .tup []) _ _ ed13)
    have ed15 := (upd_ne (H := H14) (o := .lst (bs ++ [c4])) npd).trans ed14
    generalize upd H14 bp (.lst (bs ++ [c4])) = H15 at tw4 ed15
    -- the long ones, or not
    refine ⟨fun σ' G' => ∃ (B : Hp) (gs bs : List V) (dg db : List PyData), Two 13 K B G' gp bp gs bs dg db ∧ σ' = [some (.ref a), some (.ref pd), some (.int (N : Int)), x3, some (.int (nr : Int)), some (.str word), some (.str other), some (.str st), some (.ref gp), some (.ref bp), none], ?_, ?_⟩
    · refine ⟨_, rfl, pd, _, ((2 : Nat) : Int), .int ds[2], rfl, rfl, sql ed15, gt (by omega), _, _, rfl, rfl, (by show (0 : Int) < _; decide), rfl, _, rfl, ifd (fun hx => ?_) (fun hx => ⟨_, _, _, _, _, tw4.more (by decide), rfl⟩)⟩
      refine ⟨_, rfl, .inl ⟨rfl, _, sql tw4.g⟩, _, rfl, _, _, rfl, rfl, (by show (0 : Int) < _; decide), _, _, rfl, rfl, "a", _, rfl, rfl, by omega, by omega, (by show _ * 1 ≤ _; omega), gp, gs, _, rfl, rfl, tw4.g, szl (by have := tw4.gl; omega), ?_⟩
      have tw5 := tw4.addG (Dx.str (PySem.Txt.mul ("a" : Str) ((59999 : Int) + (nr : Int) % 2))) (good_as (by omega) (by omega))
      generalize upd H15 gp _ = H16 at tw5
      generalize gs ++ [V.str (PySem.Txt.mul ("a" : Str) ((59999 : Int) + (nr : Int) % 2))] = gs at tw5
      refine ⟨_, rfl, .inl ⟨rfl, _, sql tw5.b⟩, _, rfl, _, _, rfl, rfl, (by show (0 : Int) < _; decide), _, _, rfl, rfl, "a", _, rfl, rfl, by omega, by omega, (by show _ * 1 ≤ _; omega), bp, _, _, rfl, rfl, tw5.b, szl (by have := tw5.bl; omega), ?_⟩
      have tw6 := tw5.addB (Dx.str (PySem.Txt.mul ("a" : Str) ((60001 : Int) + (nr : Int) % 2))) (bad_as (by omega) (by omega))
      generalize upd H16 bp _ = H17 at tw6
      refine ⟨_, rfl, .inl ⟨rfl, _, sql tw6.g⟩, (by show 1 ≤ sizeLine; decide), fun q1 hq1 => ?_⟩
      have tw7 := tw6.new hq1 (.tup [.non])
      refine ⟨_, rfl, _, _, rfl, rfl, (by show (0 : Int) < _; decide), _, _, rfl, rfl, q1, 59999 + nr % 2, [.non], rfl, congrArg V.int (by omega), sqt upd_same, by simp, by omega, (by show _ * 1 ≤ _; omega), fun q2 hq2 => ?_⟩
      rw [flat_one]
      have tw8 := tw7.new hq2 (.tup (List.replicate (59999 + nr % 2) .non))
      refine ⟨gp, gs, _, rfl, rfl, tw8.g, szl (by have := tw8.gl; omega), ?_⟩
      have tw9 := tw8.addG (v := .ref q2) (.tup upd_same (dxa_rep _)) (good_nones (k := 59999 + nr % 2) (by omega))
      generalize upd (upd (upd H17 q1 _) q2 _) gp _ = H18 at tw9
      refine ⟨_, rfl, .inl ⟨rfl, _, sql tw9.b⟩, (by show 1 ≤ sizeLine; decide), fun q3 hq3 => ?_⟩
      have twa := tw9.new hq3 (.tup [.non])
      refine ⟨_, rfl, _, _, rfl, rfl, (by show (0 : Int) < _; decide), _, _, rfl, rfl, q3, 60001 + nr % 2, [.non], rfl, congrArg V.int (by omega), sqt upd_same, by simp, by omega, (by show _ * 1 ≤ _; omega), fun q4 hq4 => ?_⟩
      rw [flat_one]
      have twb := twa.new hq4 (.tup (List.replicate (60001 + nr % 2) .non))
      refine ⟨bp, _, _, rfl, rfl, twb.b, szl (by have := twb.bl; omega), ?_⟩
      have twc := twb.addB (v := .ref q4) (.tup upd_same (dxa_rep _)) (bad_nones (k := 60001 + nr % 2) (by omega) (by omega))
      exact ⟨_, _, _, _, _, twc, rfl⟩
    rintro σ G ⟨B, gs, bs, dg, db, tw, rfl⟩
    -- the good
    refine ⟨_, rfl, gp, rfl, ⟨_, sql tw.g⟩, for_list (K := K) (a := gp) (xs := gs) (fun i σ G2 => Same G G2 ∧ ∃ x10, σ = [some (.ref a), some (.ref pd), some (.int (N : Int)), x3, some (.int (nr : Int)), some (.str word), some (.str other), some (.str st), some (.ref gp), some (.ref bp), x10]) ⟨Same.refl _, none, rfl⟩ (fun i σ G2 _ h => h.1.seq (sql tw.g)) ?_ ?_⟩
    · rintro i x σ G2 hx ⟨sg, x10, rfl⟩
      obtain ⟨d, hdi, hdx⟩ := dxa_at tw.ga hx
      have hgd := tw.gg d (List.mem_of_getElem? hdi)
      exact ⟨_, rfl, x, d, rfl, dx_same (tw.sa.trans sg) _ hdx, hgd.1, hgd.2, fun H' s' => ⟨true, rfl, ifbf rfl ⟨sg.trans s', _, rfl⟩⟩⟩
    rintro σ G2 ⟨sg, x10, rfl⟩
    -- the bad
    refine ⟨_, rfl, bp, rfl, ⟨_, sql (sg _ _ tw.b)⟩, for_list (K := K) (a := bp) (xs := bs) (fun i σ G3 => Same G G3 ∧ ∃ x10, σ = [some (.ref a), some (.ref pd), some (.int (N : Int)), x3, some (.int (nr : Int)), some (.str word), some (.str other), some (.str st), some (.ref gp), some (.ref bp), x10]) ⟨sg, x10, rfl⟩ (fun i σ G3 _ h => h.1.seq (sql tw.b)) ?_ ?_⟩
    · rintro i x σ G3 hx ⟨sg3, x10, rfl⟩
      obtain ⟨d, hdi, hdx⟩ := dxa_at tw.ba hx
      have hbd := tw.bb d (List.mem_of_getElem? hdi)
      have dx3 := dx_same (tw.sa.trans sg3) _ hdx
      refine ⟨_, rfl, x, d, rfl, dx3, hbd.1, hbd.2 20 (by decide), fun Ha sa => ⟨true, rfl, (if_neg (by decide)).mpr ?_⟩⟩
      have dxA := dx_same sa _ dx3
      refine ⟨_, rfl, _, rfl, (by show 2 ≤ sizeLine; decide), fun p1 hp1 => ⟨.ref p1, .tuple [.str word, d], rfl, .tup upd_same (.cons (.str _) (.cons (dx_same (same_upd hp1) _ dxA) .nil)), (bad_snd hwl hbd).1, (bad_snd hwl hbd).2, fun Hb sb => ⟨true, rfl, (if_neg (by decide)).mpr ?_⟩⟩⟩
      have sab := (same_upd hp1).trans sb
      have dxB := dx_same sab _ dxA
      refine ⟨_, rfl, _, rfl, (by show 2 ≤ sizeLine; decide), fun p2 hp2 => ⟨(by show 2 ≤ sizeLine; decide), fun p3 hp3 => ⟨.ref p3, .tuple [.tuple [d, .int (nr : Int)], .none], rfl, ?_, (bad_fst hbd).1, (bad_fst hbd).2, fun Hc sc => ⟨true, rfl, ifbf rfl ⟨?_, _, rfl⟩⟩⟩⟩⟩
      · exact .tup upd_same (.cons (.tup (same_upd hp3 _ _ upd_same) (.cons (dx_same ((same_upd hp2).trans (same_upd hp3)) _ dxB) (.cons (.int _) .nil))) (.cons .non .nil))
      · exact sg3.trans (sa.trans (sab.trans (((same_upd hp2).trans (same_upd hp3)).trans sc)))
    rintro σ G3 ⟨_, x10, rfl⟩
    exact q _
end
theorem all_mk {l : PySem.W.OpenLaw} {w : World} {K : PySem.W.Frag} {h : Heap} {mg : Str → Option Value} {fa : Addr} (X : K.In h) (G : h.Ns mainGlobals mg) (hfa : mg "law" = some (.ref fa))
    {e_MajordomoError : Addr} {e_CodecError : Addr} {e_Truncated : Addr} {e_Malformed : Addr} {e_Damaged : Addr} {e_NotAValue : Addr} {f_has_plain_characters : Addr} {od_has_plain_characters an_has_plain_characters : Option Addr} {sl_has_plain_characters : Array (Option Value)} {oc_has_plain_characters kV_has_plain_characters dc_has_plain_characters pm_has_plain_characters cd_has_plain_characters ct_has_plain_characters : Value} {f_put_number : Addr} {od_put_number an_put_number : Option Addr} {sl_put_number : Array (Option Value)} {oc_put_number kV_put_number dc_put_number pm_put_number cd_put_number ct_put_number : Value} {f_is_value : Addr} {od_is_value an_is_value : Option Addr} {sl_is_value : Array (Option Value)} {oc_is_value kV_is_value dc_is_value pm_is_value cd_is_value ct_is_value : Value} {f__is_value_within : Addr} {od__is_value_within an__is_value_within : Option Addr} {sl__is_value_within : Array (Option Value)} {oc__is_value_within kV__is_value_within dc__is_value_within pm__is_value_within cd__is_value_within ct__is_value_within : Value} {f_pack : Addr} {od_pack an_pack : Option Addr} {sl_pack : Array (Option Value)} {oc_pack kV_pack dc_pack pm_pack cd_pack ct_pack : Value} {f__packed : Addr} {od__packed an__packed : Option Addr} {sl__packed : Array (Option Value)} {oc__packed kV__packed dc__packed pm__packed cd__packed ct__packed : Value} {f__law_draws : Addr} {od__law_draws an__law_draws : Option Addr} {sl__law_draws : Array (Option Value)} {oc__law_draws kV__law_draws dc__law_draws pm__law_draws cd__law_draws ct__law_draws : Value} {f__law_char : Addr} {od__law_char an__law_char : Option Addr} {sl__law_char : Array (Option Value)} {oc__law_char kV__law_char dc__law_char pm__law_char cd__law_char ct__law_char : Value} {f__law_refused : Addr} {od__law_refused an__law_refused : Option Addr} {sl__law_refused : Array (Option Value)} {oc__law_refused kV__law_refused dc__law_refused pm__law_refused cd__law_refused ct__law_refused : Value} {f__law_accepted : Addr} {od__law_accepted an__law_accepted : Option Addr} {sl__law_accepted : Array (Option Value)} {oc__law_accepted kV__law_accepted dc__law_accepted pm__law_accepted cd__law_accepted ct__law_accepted : Value} {f__law_chain : Addr} {od__law_chain an__law_chain : Option Addr} {sl__law_chain : Array (Option Value)} {oc__law_chain kV__law_chain dc__law_chain pm__law_chain cd__law_chain ct__law_chain : Value} {f__law_word : Addr} {od__law_word an__law_word : Option Addr} {sl__law_word : Array (Option Value)} {oc__law_word kV__law_word dc__law_word pm__law_word cd__law_word ct__law_word : Value} {f_law : Addr} {od_law an_law : Option Addr} {sl_law : Array (Option Value)} {oc_law kV_law dc_law pm_law cd_law ct_law : Value} {t_SPACE : Tok} {t_PERCENT : Tok} {t_TILDE : Tok} {t_MOST_BITS : Tok} {t_MOST_LENGTH : Tok} {t_MOST_DEPTH : Tok} {t_FALSE_TAG : Tok} {t_TRUE_TAG : Tok} {t_NATURAL_TAG : Tok} {t_NEGATIVE_TAG : Tok} {t_TEXT_TAG : Tok} {t_TUPLE_TAG : Tok}
    (g_MajordomoError : PySem.W.nsIn K mainGlobals "MajordomoError" = some (some (.ref e_MajordomoError)))
    (x_MajordomoError : PySem.W.excIn K e_MajordomoError [.type "ValueError", .type "Exception", .type "BaseException", .type "object"] "ValueError.__new__" = true)
    (k_MajordomoError : PySem.W.keepIn K (.ref e_MajordomoError) = true)
    (s_MajordomoError : PySem.W.subIn K (.ref e_MajordomoError) (.type "BaseException") = some true)
    (t_MajordomoError : PySem.W.typeIn K (.ref e_MajordomoError) = some (.type "type"))
    (g_CodecError : PySem.W.nsIn K mainGlobals "CodecError" = some (some (.ref e_CodecError)))
    (x_CodecError : PySem.W.excIn K e_CodecError [.type "ValueError", .type "Exception", .type "BaseException", .type "object"] "ValueError.__new__" = true)
    (k_CodecError : PySem.W.keepIn K (.ref e_CodecError) = true)
    (s_CodecError : PySem.W.subIn K (.ref e_CodecError) (.type "BaseException") = some true)
    (t_CodecError : PySem.W.typeIn K (.ref e_CodecError) = some (.type "type"))
    (g_Truncated : PySem.W.nsIn K mainGlobals "Truncated" = some (some (.ref e_Truncated)))
    (x_Truncated : PySem.W.excIn K e_Truncated [.type "ValueError", .type "Exception", .type "BaseException", .type "object"] "ValueError.__new__" = true)
    (k_Truncated : PySem.W.keepIn K (.ref e_Truncated) = true)
    (s_Truncated : PySem.W.subIn K (.ref e_Truncated) (.type "BaseException") = some true)
    (t_Truncated : PySem.W.typeIn K (.ref e_Truncated) = some (.type "type"))
    (g_Malformed : PySem.W.nsIn K mainGlobals "Malformed" = some (some (.ref e_Malformed)))
    (x_Malformed : PySem.W.excIn K e_Malformed [.type "ValueError", .type "Exception", .type "BaseException", .type "object"] "ValueError.__new__" = true)
    (k_Malformed : PySem.W.keepIn K (.ref e_Malformed) = true)
    (s_Malformed : PySem.W.subIn K (.ref e_Malformed) (.type "BaseException") = some true)
    (t_Malformed : PySem.W.typeIn K (.ref e_Malformed) = some (.type "type"))
    (g_Damaged : PySem.W.nsIn K mainGlobals "Damaged" = some (some (.ref e_Damaged)))
    (x_Damaged : PySem.W.excIn K e_Damaged [.type "ValueError", .type "Exception", .type "BaseException", .type "object"] "ValueError.__new__" = true)
    (k_Damaged : PySem.W.keepIn K (.ref e_Damaged) = true)
    (s_Damaged : PySem.W.subIn K (.ref e_Damaged) (.type "BaseException") = some true)
    (t_Damaged : PySem.W.typeIn K (.ref e_Damaged) = some (.type "type"))
    (g_NotAValue : PySem.W.nsIn K mainGlobals "NotAValue" = some (some (.ref e_NotAValue)))
    (x_NotAValue : PySem.W.excIn K e_NotAValue [.type "ValueError", .type "Exception", .type "BaseException", .type "object"] "ValueError.__new__" = true)
    (k_NotAValue : PySem.W.keepIn K (.ref e_NotAValue) = true)
    (s_NotAValue : PySem.W.subIn K (.ref e_NotAValue) (.type "BaseException") = some true)
    (t_NotAValue : PySem.W.typeIn K (.ref e_NotAValue) = some (.type "type"))
    (hx_NotAValue : PySem.W.hasDictIn K e_NotAValue = true)
    (su_NotAValue : PySem.W.subIn K (.ref e_NotAValue) (.ref e_NotAValue) = some true)
    (Xhg_NotAValue : PySem.W.findIn K (.ref e_NotAValue) "__getattribute__" = some (some (.builtin "BaseException.__getattribute__")))
    (Xhk_NotAValue : PySem.W.findIn K (.ref e_NotAValue) "__getattr__" = some none)
    (Xhs_NotAValue : PySem.W.subIn K (.ref e_NotAValue) (.type "BaseException") = some true)
    (Xhd_NotAValue : PySem.W.hasDictIn K e_NotAValue = true)
    (Xha_NotAValue : PySem.W.findIn K (.ref e_NotAValue) "__class__" = some (some (.builtin "object.__class__")))
    (Xhn_NotAValue : PySem.W.specialIn K (.builtin "object.__class__") "__get__" = some (some (.builtin "getset_descriptor.__get__")))
    (Xht_NotAValue : PySem.W.takesIn K (.builtin "object.__class__") = some true)
    (Xhm_NotAValue : PySem.W.mroIn K e_NotAValue (.type "object") = some true)
    (y_NotAValue_Truncated : PySem.W.kitOne K (.ref e_NotAValue) (.ref e_Truncated) = some false)
    (y_NotAValue_Malformed : PySem.W.kitOne K (.ref e_NotAValue) (.ref e_Malformed) = some false)
    (y_NotAValue_Damaged : PySem.W.kitOne K (.ref e_NotAValue) (.ref e_Damaged) = some false)
    (y_NotAValue_CodecError : PySem.W.kitOne K (.ref e_NotAValue) (.ref e_CodecError) = some true)
    (g_has_plain_characters : PySem.W.nsIn K mainGlobals "has_plain_characters" = some (some (.ref f_has_plain_characters)))
    (l_has_plain_characters : K.lookup f_has_plain_characters = some ⟨oc_has_plain_characters, od_has_plain_characters, .func (PySem.W.fnOf "has_plain_characters" "has_plain_characters" (defArgs s_has_plain_characters) (defBody s_has_plain_characters) (defScope s_has_plain_characters) .none kV_has_plain_characters dc_has_plain_characters pm_has_plain_characters an_has_plain_characters cd_has_plain_characters ct_has_plain_characters), sl_has_plain_characters⟩)
    (c_has_plain_characters : PySem.W.codeIn K cd_has_plain_characters "has_plain_characters" = true)
    (k_has_plain_characters : PySem.W.keepIn K (.ref f_has_plain_characters) = true)
    (g_put_number : PySem.W.nsIn K mainGlobals "put_number" = some (some (.ref f_put_number)))
    (l_put_number : K.lookup f_put_number = some ⟨oc_put_number, od_put_number, .func (PySem.W.fnOf "put_number" "put_number" (defArgs s_put_number) (defBody s_put_number) (defScope s_put_number) .none kV_put_number dc_put_number pm_put_number an_put_number cd_put_number ct_put_number), sl_put_number⟩)
    (c_put_number : PySem.W.codeIn K cd_put_number "put_number" = true)
    (k_put_number : PySem.W.keepIn K (.ref f_put_number) = true)
    (g_is_value : PySem.W.nsIn K mainGlobals "is_value" = some (some (.ref f_is_value)))
    (l_is_value : K.lookup f_is_value = some ⟨oc_is_value, od_is_value, .func (PySem.W.fnOf "is_value" "is_value" (defArgs s_is_value) (defBody s_is_value) (defScope s_is_value) .none kV_is_value dc_is_value pm_is_value an_is_value cd_is_value ct_is_value), sl_is_value⟩)
    (c_is_value : PySem.W.codeIn K cd_is_value "is_value" = true)
    (k_is_value : PySem.W.keepIn K (.ref f_is_value) = true)
    (g__is_value_within : PySem.W.nsIn K mainGlobals "_is_value_within" = some (some (.ref f__is_value_within)))
    (l__is_value_within : K.lookup f__is_value_within = some ⟨oc__is_value_within, od__is_value_within, .func (PySem.W.fnOf "_is_value_within" "_is_value_within" (defArgs s__is_value_within) (defBody s__is_value_within) (defScope s__is_value_within) .none kV__is_value_within dc__is_value_within pm__is_value_within an__is_value_within cd__is_value_within ct__is_value_within), sl__is_value_within⟩)
    (c__is_value_within : PySem.W.codeIn K cd__is_value_within "_is_value_within" = true)
    (k__is_value_within : PySem.W.keepIn K (.ref f__is_value_within) = true)
    (g_pack : PySem.W.nsIn K mainGlobals "pack" = some (some (.ref f_pack)))
    (l_pack : K.lookup f_pack = some ⟨oc_pack, od_pack, .func (PySem.W.fnOf "pack" "pack" (defArgs s_pack) (defBody s_pack) (defScope s_pack) .none kV_pack dc_pack pm_pack an_pack cd_pack ct_pack), sl_pack⟩)
    (c_pack : PySem.W.codeIn K cd_pack "pack" = true)
    (k_pack : PySem.W.keepIn K (.ref f_pack) = true)
    (g__packed : PySem.W.nsIn K mainGlobals "_packed" = some (some (.ref f__packed)))
    (l__packed : K.lookup f__packed = some ⟨oc__packed, od__packed, .func (PySem.W.fnOf "_packed" "_packed" (defArgs s__packed) (defBody s__packed) (defScope s__packed) .none kV__packed dc__packed pm__packed an__packed cd__packed ct__packed), sl__packed⟩)
    (c__packed : PySem.W.codeIn K cd__packed "_packed" = true)
    (k__packed : PySem.W.keepIn K (.ref f__packed) = true)
    (g__law_draws : PySem.W.nsIn K mainGlobals "_law_draws" = some (some (.ref f__law_draws)))
    (l__law_draws : K.lookup f__law_draws = some ⟨oc__law_draws, od__law_draws, .func (PySem.W.fnOf "_law_draws" "_law_draws" (defArgs s__law_draws) (defBody s__law_draws) (defScope s__law_draws) .none kV__law_draws dc__law_draws pm__law_draws an__law_draws cd__law_draws ct__law_draws), sl__law_draws⟩)
    (c__law_draws : PySem.W.codeIn K cd__law_draws "_law_draws" = true)
    (k__law_draws : PySem.W.keepIn K (.ref f__law_draws) = true)
    (g__law_char : PySem.W.nsIn K mainGlobals "_law_char" = some (some (.ref f__law_char)))
    (l__law_char : K.lookup f__law_char = some ⟨oc__law_char, od__law_char, .func (PySem.W.fnOf "_law_char" "_law_char" (defArgs s__law_char) (defBody s__law_char) (defScope s__law_char) .none kV__law_char dc__law_char pm__law_char an__law_char cd__law_char ct__law_char), sl__law_char⟩)
    (c__law_char : PySem.W.codeIn K cd__law_char "_law_char" = true)
    (k__law_char : PySem.W.keepIn K (.ref f__law_char) = true)
    (g__law_refused : PySem.W.nsIn K mainGlobals "_law_refused" = some (some (.ref f__law_refused)))
    (l__law_refused : K.lookup f__law_refused = some ⟨oc__law_refused, od__law_refused, .func (PySem.W.fnOf "_law_refused" "_law_refused" (defArgs s__law_refused) (defBody s__law_refused) (defScope s__law_refused) .none kV__law_refused dc__law_refused pm__law_refused an__law_refused cd__law_refused ct__law_refused), sl__law_refused⟩)
    (c__law_refused : PySem.W.codeIn K cd__law_refused "_law_refused" = true)
    (k__law_refused : PySem.W.keepIn K (.ref f__law_refused) = true)
    (g__law_accepted : PySem.W.nsIn K mainGlobals "_law_accepted" = some (some (.ref f__law_accepted)))
    (l__law_accepted : K.lookup f__law_accepted = some ⟨oc__law_accepted, od__law_accepted, .func (PySem.W.fnOf "_law_accepted" "_law_accepted" (defArgs s__law_accepted) (defBody s__law_accepted) (defScope s__law_accepted) .none kV__law_accepted dc__law_accepted pm__law_accepted an__law_accepted cd__law_accepted ct__law_accepted), sl__law_accepted⟩)
    (c__law_accepted : PySem.W.codeIn K cd__law_accepted "_law_accepted" = true)
    (k__law_accepted : PySem.W.keepIn K (.ref f__law_accepted) = true)
    (g__law_chain : PySem.W.nsIn K mainGlobals "_law_chain" = some (some (.ref f__law_chain)))
    (l__law_chain : K.lookup f__law_chain = some ⟨oc__law_chain, od__law_chain, .func (PySem.W.fnOf "_law_chain" "_law_chain" (defArgs s__law_chain) (defBody s__law_chain) (defScope s__law_chain) .none kV__law_chain dc__law_chain pm__law_chain an__law_chain cd__law_chain ct__law_chain), sl__law_chain⟩)
    (c__law_chain : PySem.W.codeIn K cd__law_chain "_law_chain" = true)
    (k__law_chain : PySem.W.keepIn K (.ref f__law_chain) = true)
    (g__law_word : PySem.W.nsIn K mainGlobals "_law_word" = some (some (.ref f__law_word)))
    (l__law_word : K.lookup f__law_word = some ⟨oc__law_word, od__law_word, .func (PySem.W.fnOf "_law_word" "_law_word" (defArgs s__law_word) (defBody s__law_word) (defScope s__law_word) .none kV__law_word dc__law_word pm__law_word an__law_word cd__law_word ct__law_word), sl__law_word⟩)
    (c__law_word : PySem.W.codeIn K cd__law_word "_law_word" = true)
    (k__law_word : PySem.W.keepIn K (.ref f__law_word) = true)
    (g_law : PySem.W.nsIn K mainGlobals "law" = some (some (.ref f_law)))
    (l_law : K.lookup f_law = some ⟨oc_law, od_law, .func (PySem.W.fnOf "law" "law" (defArgs s_law) (defBody s_law) (defScope s_law) .none kV_law dc_law pm_law an_law cd_law ct_law), sl_law⟩)
    (c_law : PySem.W.codeIn K cd_law "law" = true)
    (k_law : PySem.W.keepIn K (.ref f_law) = true)
    (c_SPACE : PySem.W.nsIn K mainGlobals "SPACE" = some (some (.int 32 t_SPACE)))
    (c_PERCENT : PySem.W.nsIn K mainGlobals "PERCENT" = some (some (.int 37 t_PERCENT)))
    (c_TILDE : PySem.W.nsIn K mainGlobals "TILDE" = some (some (.int 126 t_TILDE)))
    (c_MOST_BITS : PySem.W.nsIn K mainGlobals "MOST_BITS" = some (some (.int 3000 t_MOST_BITS)))
    (c_MOST_LENGTH : PySem.W.nsIn K mainGlobals "MOST_LENGTH" = some (some (.int 60000 t_MOST_LENGTH)))
    (c_MOST_DEPTH : PySem.W.nsIn K mainGlobals "MOST_DEPTH" = some (some (.int 20 t_MOST_DEPTH)))
    (c_FALSE_TAG : PySem.W.nsIn K mainGlobals "FALSE_TAG" = some (some (.int 1 t_FALSE_TAG)))
    (c_TRUE_TAG : PySem.W.nsIn K mainGlobals "TRUE_TAG" = some (some (.int 2 t_TRUE_TAG)))
    (c_NATURAL_TAG : PySem.W.nsIn K mainGlobals "NATURAL_TAG" = some (some (.int 3 t_NATURAL_TAG)))
    (c_NEGATIVE_TAG : PySem.W.nsIn K mainGlobals "NEGATIVE_TAG" = some (some (.int 4 t_NEGATIVE_TAG)))
    (c_TEXT_TAG : PySem.W.nsIn K mainGlobals "TEXT_TAG" = some (some (.int 5 t_TEXT_TAG)))
    (c_TUPLE_TAG : PySem.W.nsIn K mainGlobals "TUPLE_TAG" = some (some (.int 6 t_TUPLE_TAG)))
    (n_ord : PySem.W.nsIn K mainGlobals "ord" = some none)
    (n_isinstance : PySem.W.nsIn K mainGlobals "isinstance" = some none)
    (n_bool : PySem.W.nsIn K mainGlobals "bool" = some none)
    (n_int : PySem.W.nsIn K mainGlobals "int" = some none)
    (n_str : PySem.W.nsIn K mainGlobals "str" = some none)
    (n_len : PySem.W.nsIn K mainGlobals "len" = some none)
    (n_tuple : PySem.W.nsIn K mainGlobals "tuple" = some none)
    (n_range : PySem.W.nsIn K mainGlobals "range" = some none)
    (n_abs : PySem.W.nsIn K mainGlobals "abs" = some none) :
    ∃ fd : FuncData, (∀ (s : Shared) (v : Value), BindsTo s fd ⟨[v], []⟩ [("script", v)]) ∧ ∀ base : Heap, K.In base → base.Ns mainGlobals mg → FnOk l.prog w K mg base CX0 26 fa fd ["script"] (sp_law K) := by
  have e : fa = f_law := by
    have z := hfa.symm.trans (PySem.W.mg_of X G g_law)
    injection z with z
    injection z
  rw [e]
  let T : TX K mg := ⟨e_MajordomoError, (PySem.W.mg_of X G g_MajordomoError), x_MajordomoError, k_MajordomoError, s_MajordomoError, t_MajordomoError, e_CodecError, (PySem.W.mg_of X G g_CodecError), x_CodecError, k_CodecError, s_CodecError, t_CodecError, e_Truncated, (PySem.W.mg_of X G g_Truncated), x_Truncated, k_Truncated, s_Truncated, t_Truncated, e_Malformed, (PySem.W.mg_of X G g_Malformed), x_Malformed, k_Malformed, s_Malformed, t_Malformed, e_Damaged, (PySem.W.mg_of X G g_Damaged), x_Damaged, k_Damaged, s_Damaged, t_Damaged, e_NotAValue, (PySem.W.mg_of X G g_NotAValue), x_NotAValue, k_NotAValue, s_NotAValue, t_NotAValue, (PySem.W.exm_ref s_NotAValue hx_NotAValue t_NotAValue su_NotAValue), ⟨Xhg_NotAValue, Xhk_NotAValue, Xhs_NotAValue, Xhd_NotAValue, Xha_NotAValue, Xhn_NotAValue, Xht_NotAValue, Xhm_NotAValue⟩, y_NotAValue_Truncated, y_NotAValue_Malformed, y_NotAValue_Damaged, y_NotAValue_CodecError, f_has_plain_characters, (PySem.W.fnOf "has_plain_characters" "has_plain_characters" (defArgs s_has_plain_characters) (defBody s_has_plain_characters) (defScope s_has_plain_characters) .none kV_has_plain_characters dc_has_plain_characters pm_has_plain_characters an_has_plain_characters cd_has_plain_characters ct_has_plain_characters), (fun_mk (st := s_has_plain_characters) l_has_plain_characters c_has_plain_characters k_has_plain_characters), ((fun_mk (st := s_has_plain_characters) l_has_plain_characters c_has_plain_characters k_has_plain_characters).binds (ps := ["text"]) fun _ _ _ _ _ _ us hl => match us, hl with | [_], _ => rfl), (PySem.W.mg_of X G g_has_plain_characters), f_put_number, (PySem.W.fnOf "put_number" "put_number" (defArgs s_put_number) (defBody s_put_number) (defScope s_put_number) .none kV_put_number dc_put_number pm_put_number an_put_number cd_put_number ct_put_number), (fun_mk (st := s_put_number) l_put_number c_put_number k_put_number), ((fun_mk (st := s_put_number) l_put_number c_put_number k_put_number).binds (ps := ["number"]) fun _ _ _ _ _ _ us hl => match us, hl with | [_], _ => rfl), (PySem.W.mg_of X G g_put_number), f_is_value, (PySem.W.fnOf "is_value" "is_value" (defArgs s_is_value) (defBody s_is_value) (defScope s_is_value) .none kV_is_value dc_is_value pm_is_value an_is_value cd_is_value ct_is_value), (fun_mk (st := s_is_value) l_is_value c_is_value k_is_value), ((fun_mk (st := s_is_value) l_is_value c_is_value k_is_value).binds (ps := ["value"]) fun _ _ _ _ _ _ us hl => match us, hl with | [_], _ => rfl), (PySem.W.mg_of X G g_is_value), f__is_value_within, (PySem.W.fnOf "_is_value_within" "_is_value_within" (defArgs s__is_value_within) (defBody s__is_value_within) (defScope s__is_value_within) .none kV__is_value_within dc__is_value_within pm__is_value_within an__is_value_within cd__is_value_within ct__is_value_within), (fun_mk (st := s__is_value_within) l__is_value_within c__is_value_within k__is_value_within), ((fun_mk (st := s__is_value_within) l__is_value_within c__is_value_within k__is_value_within).binds (ps := ["value", "depth"]) fun _ _ _ _ _ _ us hl => match us, hl with | [_, _], _ => rfl), (PySem.W.mg_of X G g__is_value_within), f_pack, (PySem.W.fnOf "pack" "pack" (defArgs s_pack) (defBody s_pack) (defScope s_pack) .none kV_pack dc_pack pm_pack an_pack cd_pack ct_pack), (fun_mk (st := s_pack) l_pack c_pack k_pack), ((fun_mk (st := s_pack) l_pack c_pack k_pack).binds (ps := ["value"]) fun _ _ _ _ _ _ us hl => match us, hl with | [_], _ => rfl), (PySem.W.mg_of X G g_pack), f__packed, (PySem.W.fnOf "_packed" "_packed" (defArgs s__packed) (defBody s__packed) (defScope s__packed) .none kV__packed dc__packed pm__packed an__packed cd__packed ct__packed), (fun_mk (st := s__packed) l__packed c__packed k__packed), ((fun_mk (st := s__packed) l__packed c__packed k__packed).binds (ps := ["value"]) fun _ _ _ _ _ _ us hl => match us, hl with | [_], _ => rfl), (PySem.W.mg_of X G g__packed), f__law_draws, (PySem.W.fnOf "_law_draws" "_law_draws" (defArgs s__law_draws) (defBody s__law_draws) (defScope s__law_draws) .none kV__law_draws dc__law_draws pm__law_draws an__law_draws cd__law_draws ct__law_draws), (fun_mk (st := s__law_draws) l__law_draws c__law_draws k__law_draws), ((fun_mk (st := s__law_draws) l__law_draws c__law_draws k__law_draws).binds (ps := ["script", "many"]) fun _ _ _ _ _ _ us hl => match us, hl with | [_, _], _ => rfl), (PySem.W.mg_of X G g__law_draws), f__law_char, (PySem.W.fnOf "_law_char" "_law_char" (defArgs s__law_char) (defBody s__law_char) (defScope s__law_char) .none kV__law_char dc__law_char pm__law_char an__law_char cd__law_char ct__law_char), (fun_mk (st := s__law_char) l__law_char c__law_char k__law_char), ((fun_mk (st := s__law_char) l__law_char c__law_char k__law_char).binds (ps := ["draw"]) fun _ _ _ _ _ _ us hl => match us, hl with | [_], _ => rfl), (PySem.W.mg_of X G g__law_char), f__law_refused, (PySem.W.fnOf "_law_refused" "_law_refused" (defArgs s__law_refused) (defBody s__law_refused) (defScope s__law_refused) .none kV__law_refused dc__law_refused pm__law_refused an__law_refused cd__law_refused ct__law_refused), (fun_mk (st := s__law_refused) l__law_refused c__law_refused k__law_refused), ((fun_mk (st := s__law_refused) l__law_refused c__law_refused k__law_refused).binds (ps := ["value"]) fun _ _ _ _ _ _ us hl => match us, hl with | [_], _ => rfl), (PySem.W.mg_of X G g__law_refused), f__law_accepted, (PySem.W.fnOf "_law_accepted" "_law_accepted" (defArgs s__law_accepted) (defBody s__law_accepted) (defScope s__law_accepted) .none kV__law_accepted dc__law_accepted pm__law_accepted an__law_accepted cd__law_accepted ct__law_accepted), (fun_mk (st := s__law_accepted) l__law_accepted c__law_accepted k__law_accepted), ((fun_mk (st := s__law_accepted) l__law_accepted c__law_accepted k__law_accepted).binds (ps := ["value"]) fun _ _ _ _ _ _ us hl => match us, hl with | [_], _ => rfl), (PySem.W.mg_of X G g__law_accepted), f__law_chain, (PySem.W.fnOf "_law_chain" "_law_chain" (defArgs s__law_chain) (defBody s__law_chain) (defScope s__law_chain) .none kV__law_chain dc__law_chain pm__law_chain an__law_chain cd__law_chain ct__law_chain), (fun_mk (st := s__law_chain) l__law_chain c__law_chain k__law_chain), ((fun_mk (st := s__law_chain) l__law_chain c__law_chain k__law_chain).binds (ps := ["value", "depth"]) fun _ _ _ _ _ _ us hl => match us, hl with | [_, _], _ => rfl), (PySem.W.mg_of X G g__law_chain), f__law_word, (PySem.W.fnOf "_law_word" "_law_word" (defArgs s__law_word) (defBody s__law_word) (defScope s__law_word) .none kV__law_word dc__law_word pm__law_word an__law_word cd__law_word ct__law_word), (fun_mk (st := s__law_word) l__law_word c__law_word k__law_word), ((fun_mk (st := s__law_word) l__law_word c__law_word k__law_word).binds (ps := ["draws"]) fun _ _ _ _ _ _ us hl => match us, hl with | [_], _ => rfl), (PySem.W.mg_of X G g__law_word), f_law, (PySem.W.fnOf "law" "law" (defArgs s_law) (defBody s_law) (defScope s_law) .none kV_law dc_law pm_law an_law cd_law ct_law), (fun_mk (st := s_law) l_law c_law k_law), ((fun_mk (st := s_law) l_law c_law k_law).binds (ps := ["script"]) fun _ _ _ _ _ _ us hl => match us, hl with | [_], _ => rfl), (PySem.W.mg_of X G g_law), t_SPACE, (PySem.W.mg_of X G c_SPACE), t_PERCENT, (PySem.W.mg_of X G c_PERCENT), t_TILDE, (PySem.W.mg_of X G c_TILDE), t_MOST_BITS, (PySem.W.mg_of X G c_MOST_BITS), t_MOST_LENGTH, (PySem.W.mg_of X G c_MOST_LENGTH), t_MOST_DEPTH, (PySem.W.mg_of X G c_MOST_DEPTH), t_FALSE_TAG, (PySem.W.mg_of X G c_FALSE_TAG), t_TRUE_TAG, (PySem.W.mg_of X G c_TRUE_TAG), t_NATURAL_TAG, (PySem.W.mg_of X G c_NATURAL_TAG), t_NEGATIVE_TAG, (PySem.W.mg_of X G c_NEGATIVE_TAG), t_TEXT_TAG, (PySem.W.mg_of X G c_TEXT_TAG), t_TUPLE_TAG, (PySem.W.mg_of X G c_TUPLE_TAG), (PySem.W.mg_none_of X G n_ord), (PySem.W.mg_none_of X G n_isinstance), (PySem.W.mg_none_of X G n_bool), (PySem.W.mg_none_of X G n_int), (PySem.W.mg_none_of X G n_str), (PySem.W.mg_none_of X G n_len), (PySem.W.mg_none_of X G n_tuple), (PySem.W.mg_none_of X G n_range), (PySem.W.mg_none_of X G n_abs)⟩
  exact ⟨T.d_law, fun s v => .of_eq rfl, fun base _ _ => ok_law T⟩
end My
open PySem PySem.W PyProof.Rows
set_option maxHeartbeats 0 in
theorem PySem.Challenge.cw_majordomo_k06_things_that_are_no_values_holds : PySem.Challenge.rw_majordomo_k06_things_that_are_no_values.Holds := by
  w_on; o_law; k_head; (case hw => w_witness2)
  k_fill
  refine L2.walk_of (l := PySem.Challenge.rw_majordomo_k06_things_that_are_no_values) (n := 63) (k := 26) (x := "script") (CX := (fun _ => L2.CX0)) (sp := fun w => My.sp_law _) rfl (by decide) rfl ⟨rfl, by decide, by decide⟩ (fun w h Y => PySem.W.kIn_of Y) ?F (fun _ _ a ns hl _ hS => ⟨a, ns, rfl, hS, hl, fun _ => rfl⟩) (fun _ _ _ _ _ h => h)
  case F =>
    intro w mg fa h KX G hmg
    refine' My.all_mk KX G hmg ?g_MajordomoError ?x_MajordomoError ?k_MajordomoError ?s_MajordomoError ?t_MajordomoError ?g_CodecError ?x_CodecError ?k_CodecError ?s_CodecError ?t_CodecError ?g_Truncated ?x_Truncated ?k_Truncated ?s_Truncated ?t_Truncated ?g_Malformed ?x_Malformed ?k_Malformed ?s_Malformed ?t_Malformed ?g_Damaged ?x_Damaged ?k_Damaged ?s_Damaged ?t_Damaged ?g_NotAValue ?x_NotAValue ?k_NotAValue ?s_NotAValue ?t_NotAValue ?hx_NotAValue ?su_NotAValue ?Xhg_NotAValue ?Xhk_NotAValue ?Xhs_NotAValue ?Xhd_NotAValue ?Xha_NotAValue ?Xhn_NotAValue ?Xht_NotAValue ?Xhm_NotAValue ?y_NotAValue_Truncated ?y_NotAValue_Malformed ?y_NotAValue_Damaged ?y_NotAValue_CodecError ?g_has_plain_characters ?l_has_plain_characters ?c_has_plain_characters ?k_has_plain_characters ?g_put_number ?l_put_number ?c_put_number ?k_put_number ?g_is_value ?l_is_value ?c_is_value ?k_is_value ?g__is_value_within ?l__is_value_within ?c__is_value_within ?k__is_value_within ?g_pack ?l_pack ?c_pack ?k_pack ?g__packed ?l__packed ?c__packed ?k__packed ?g__law_draws ?l__law_draws ?c__law_draws ?k__law_draws ?g__law_char ?l__law_char ?c__law_char ?k__law_char ?g__law_refused ?l__law_refused ?c__law_refused ?k__law_refused ?g__law_accepted ?l__law_accepted ?c__law_accepted ?k__law_accepted ?g__law_chain ?l__law_chain ?c__law_chain ?k__law_chain ?g__law_word ?l__law_word ?c__law_word ?k__law_word ?g_law ?l_law ?c_law ?k_law ?c_SPACE ?c_PERCENT ?c_TILDE ?c_MOST_BITS ?c_MOST_LENGTH ?c_MOST_DEPTH ?c_FALSE_TAG ?c_TRUE_TAG ?c_NATURAL_TAG ?c_NEGATIVE_TAG ?c_TEXT_TAG ?c_TUPLE_TAG ?n_ord ?n_isinstance ?n_bool ?n_int ?n_str ?n_len ?n_tuple ?n_range ?n_abs
    (case g_MajordomoError => k_is); (case x_MajordomoError => k_exc); (case k_MajordomoError => k_is); (case s_MajordomoError => k_is); (case t_MajordomoError => k_is); (case g_CodecError => k_is); (case x_CodecError => k_exc); (case k_CodecError => k_is); (case s_CodecError => k_is); (case t_CodecError => k_is); (case g_Truncated => k_is); (case x_Truncated => k_exc); (case k_Truncated => k_is); (case s_Truncated => k_is); (case t_Truncated => k_is); (case g_Malformed => k_is); (case x_Malformed => k_exc); (case k_Malformed => k_is); (case s_Malformed => k_is); (case t_Malformed => k_is); (case g_Damaged => k_is); (case x_Damaged => k_exc); (case k_Damaged => k_is); (case s_Damaged => k_is); (case t_Damaged => k_is); (case g_NotAValue => k_is); (case x_NotAValue => k_exc); (case k_NotAValue => k_is); (case s_NotAValue => k_is); (case t_NotAValue => k_is); (case hx_NotAValue => k_is); (case su_NotAValue => k_is); (case Xhg_NotAValue => k_is); (case Xhk_NotAValue => k_is); (case Xhs_NotAValue => k_is); (case Xhd_NotAValue => k_is); (case Xha_NotAValue => k_is); (case Xhn_NotAValue => k_is); (case Xht_NotAValue => k_is); (case Xhm_NotAValue => k_is); (case y_NotAValue_Truncated => kit_is); (case y_NotAValue_Malformed => kit_is); (case y_NotAValue_Damaged => kit_is); (case y_NotAValue_CodecError => kit_is); (case g_has_plain_characters => k_is); (case l_has_plain_characters => k_is); (case c_has_plain_characters => k_is); (case k_has_plain_characters => k_is); (case g_put_number => k_is); (case l_put_number => k_is); (case c_put_number => k_is); (case k_put_number => k_is); (case g_is_value => k_is); (case l_is_value => k_is); (case c_is_value => k_is); (case k_is_value => k_is); (case g__is_value_within => k_is); (case l__is_value_within => k_is); (case c__is_value_within => k_is); (case k__is_value_within => k_is); (case g_pack => k_is); (case l_pack => k_is); (case c_pack => k_is); (case k_pack => k_is); (case g__packed => k_is); (case l__packed => k_is); (case c__packed => k_is); (case k__packed => k_is); (case g__law_draws => k_is); (case l__law_draws => k_is); (case c__law_draws => k_is); (case k__law_draws => k_is); (case g__law_char => k_is); (case l__law_char => k_is); (case c__law_char => k_is); (case k__law_char => k_is); (case g__law_refused => k_is); (case l__law_refused => k_is); (case c__law_refused => k_is); (case k__law_refused => k_is); (case g__law_accepted => k_is); (case l__law_accepted => k_is); (case c__law_accepted => k_is); (case k__law_accepted => k_is); (case g__law_chain => k_is); (case l__law_chain => k_is); (case c__law_chain => k_is); (case k__law_chain => k_is); (case g__law_word => k_is); (case l__law_word => k_is); (case c__law_word => k_is); (case k__law_word => k_is); (case g_law => k_is); (case l_law => k_is); (case c_law => k_is); (case k_law => k_is); (case c_SPACE => k_is); (case c_PERCENT => k_is); (case c_TILDE => k_is); (case c_MOST_BITS => k_is); (case c_MOST_LENGTH => k_is); (case c_MOST_DEPTH => k_is); (case c_FALSE_TAG => k_is); (case c_TRUE_TAG => k_is); (case c_NATURAL_TAG => k_is); (case c_NEGATIVE_TAG => k_is); (case c_TEXT_TAG => k_is); (case c_TUPLE_TAG => k_is); (case n_ord => k_is); (case n_isinstance => k_is); (case n_bool => k_is); (case n_int => k_is); (case n_str => k_is); (case n_len => k_is); (case n_tuple => k_is); (case n_range => k_is); (case n_abs => k_is)

