import PyProof.Rows.All
import Wide.All
import OpenK.AllK
import Wide.FinOn
import HandS.ForMost
import HandS.IsInst
import HandS.EndBits
import HandS.Wide
import HandS.WideBits
import HandS.TupAny
import HandS.Codes
import HandS.Defaults
import HandS.ForExc
import HandS.TryMany
import HandS.ExcIs
import HandS.TryElse
import HandS.DictComp
import HandS.Walk
import HandS.NoneIn
import HandS.TupLe
import KE.SortData
import KE.DataMinMax
import KE.DataCmp
import PySem.Challenge.RW_majordomo_k68_pending_tasks
set_option Elab.async false
set_option linter.all false
set_option maxRecDepth 100000
set_option maxHeartbeats 4000000

namespace My
open PySem PySem.Spec PyProof.Rows L2
/-! own words: tests, heaps, items -/
theorem ifd {p A B : Prop} [Decidable p] (h1 : p → A) (h2 : ¬ p → B) : if decide p = true then A else B := by
  by_cases h : p
  · rw [decide_eq_true h]; exact (if_pos rfl).mpr (h1 h)
  · rw [decide_eq_false h]; exact (if_neg Bool.false_ne_true).mpr (h2 h)
theorem ifn {p A B : Prop} [Decidable p] (h1 : ¬ p → A) (h2 : p → B) : if (!decide p) = true then A else B := by
  by_cases h : p
  · rw [decide_eq_true h]; exact (if_neg Bool.false_ne_true).mpr (h2 h)
  · rw [decide_eq_false h]; exact (if_pos rfl).mpr (h1 h)
theorem ift {p A B : Prop} [Decidable p] (h : p) (h1 : A) : if decide p = true then A else B := by
  rw [decide_eq_true h]; exact (if_pos rfl).mpr h1
theorem iff0 {p A B : Prop} [Decidable p] (h : ¬ p) (h1 : B) : if decide p = true then A else B := by
  rw [decide_eq_false h]; exact (if_neg Bool.false_ne_true).mpr h1
theorem ifnt {p A B : Prop} [Decidable p] (h : p) (h1 : B) : if (!decide p) = true then A else B := by
  rw [decide_eq_true h]; exact (if_neg Bool.false_ne_true).mpr h1
theorem ifbt {b : Bool} {A B : Prop} (h : b = true) (h1 : A) : if b = true then A else B := (if_pos h).mpr h1
theorem ifbf {b : Bool} {A B : Prop} (h : b = false) (h1 : B) : if b = true then A else B := by rw [h]; exact h1
theorem ifb2 {b : Bool} {A B : Prop} (h1 : b = true → A) (h2 : b = false → B) : if b = true then A else B := by
  cases b with
  | true => exact h1 rfl
  | false => exact h2 rfl
theorem same_upd {H : Hp} {p : Addr} {o : HO} (h : H p = none) : Same H (upd H p o) := fun b x e => by
  rw [upd_ne (ne_of_none e h)]
  exact e
theorem same_put {H H' : Hp} {p : Addr} {o : HO} (e : Same H H') (h : H p = none) : Same H (upd H' p o) := fun b x q => by
  rw [upd_ne (ne_of_none q h)]
  exact e b x q
theorem sqt_same {K : PySem.W.Frag} {H H' : Hp} {a : Addr} {xs : List V} (e : Same H H') (h : SqT K H a xs) : SqT K H' a xs := by
  rcases h with (h | ⟨o, h⟩) | h
  · exact .inl (.inl (e _ _ h))
  · exact .inl (.inr ⟨o, e _ _ h⟩)
  · exact .inr h
theorem sql {K : PySem.W.Frag} {H : Hp} {a : Addr} {xs : List V} (h : H a = some (.lst xs)) : SqL K H a xs := .inl (.inl h)
theorem sqt {K : PySem.W.Frag} {H : Hp} {a : Addr} {xs : List V} (h : H a = some (.tup xs)) : SqT K H a xs := .inl (.inl h)
theorem sz {n : Nat} (h : n ≤ 100000) : n ≤ sizeLine := Nat.le_trans h (by decide)
theorem szl {n : Nat} (h : n ≤ 100000) : n < sizeLine := Nat.lt_of_le_of_lt h (by decide)
theorem map_at {α : Type} {f : α → V} {xs : List α} {i : Nat} {y : V} (h : (xs.map f)[i]? = some y) : ∃ x, xs[i]? = some x ∧ y = f x := by
  rw [List.getElem?_map] at h
  cases e : xs[i]? with
  | none => rw [e] at h; cases h
  | some x => rw [e] at h; exact ⟨x, rfl, (Option.some.inj h).symm⟩
theorem at_map {α : Type} {f : α → V} {xs : List α} {i : Nat} {x : α} (h : xs[i]? = some x) : atI (xs.map f) (i : Int) = some (f x) := atI_nat (by rw [List.getElem?_map, h]; rfl)
theorem take_more {α : Type} {l : List α} {i : Nat} {x : α} (h : l[i]? = some x) : l.take (i + 1) = l.take i ++ [x] := by
  rw [List.take_add_one, h]; rfl
/-! deep data stands as long as what was tracked stands -/
mutual
theorem dp_same {K : PySem.W.Frag} {H H' : Hp} (e : Same H H') : ∀ (d : PyData) {v : V}, Dp K H v d → Dp K H' v d
  | _, _, .non => .non
  | _, _, .bl b => .bl b
  | _, _, .int i => .int i
  | _, _, .str x => .str x
  | .list ds, _, .lst h a => .lst (e.seq h) (dpa_same e ds a)
  | .tuple ds, _, .tup h a => .tup (sqt_same e h) (dpa_same e ds a)
theorem dpa_same {K : PySem.W.Frag} {H H' : Hp} (e : Same H H') : ∀ (ds : List PyData) {vs : List V}, DpAll K H vs ds → DpAll K H' vs ds
  | [], _, .nil => .nil
  | d :: ds, _, .cons h a => .cons (dp_same e d h) (dpa_same e ds a)
end
theorem dpa_len {K : PySem.W.Frag} {H : Hp} : ∀ {vs : List V} {ds : List PyData}, DpAll K H vs ds → vs.length = ds.length
  | _, _, .nil => rfl
  | _, _, .cons _ a => by rw [List.length_cons, List.length_cons, dpa_len a]
theorem dpa_at {K : PySem.W.Frag} {H : Hp} : ∀ {vs : List V} {ds : List PyData} {i : Nat} {v : V}, DpAll K H vs ds → vs[i]? = some v → ∃ d, ds[i]? = some d ∧ Dp K H v d
  | _, _, _, _, .nil, h => by simp at h
  | _, _, 0, _, .cons h _, e => ⟨_, rfl, by have := Option.some.inj e; subst this; exact h⟩
  | _, _, i + 1, _, .cons _ a, e => dpa_at (i := i) a (by simpa using e)
theorem dpa_app {K : PySem.W.Frag} {H : Hp} : ∀ {vs ws : List V} {ds es : List PyData}, DpAll K H vs ds → DpAll K H ws es → DpAll K H (vs ++ ws) (ds ++ es)
  | _, _, _, _, .nil, b => b
  | _, _, _, _, .cons h a, b => .cons h (dpa_app a b)
theorem eqv_self {d : PyData} (h : SeqAt.shaped d = true) : PyData.eqv d d = true := SeqAt.eqv_refl d (SeqAt.canLay_of_shaped h)
/-! data that may be compared -/
theorem layAll : ∀ {ds : List PyData}, (∀ d ∈ ds, d.canLay0 = true) → PyData.canLayAll0 ds = true
  | [], _ => rfl
  | d :: ds, h => by
    rw [PyData.canLayAll0, h d List.mem_cons_self, layAll fun e he => h e (List.mem_cons_of_mem _ he)]; rfl
theorem depAll {n : Nat} : ∀ {ds : List PyData}, (∀ d ∈ ds, d.depth ≤ n) → PyData.depthAll ds ≤ n
  | [], _ => Nat.zero_le _
  | d :: ds, h => by
    have h1 := h d List.mem_cons_self
    have h2 := depAll (ds := ds) fun e he => h e (List.mem_cons_of_mem _ he)
    simp only [PyData.depthAll]
    omega
/-- plain data of at most this depth -/
def Flat (n : Nat) (d : PyData) : Prop := d.canLay0 = true ∧ d.depth ≤ n
theorem flat_list {n : Nat} {ds : List PyData} (h : ∀ d ∈ ds, Flat n d) : Flat (n + 1) (.list ds) :=
  ⟨by rw [PyData.canLay0]; exact layAll fun d hd => (h d hd).1, by have := depAll (n := n) fun d hd => (h d hd).2; simp only [PyData.depth]; omega⟩
theorem flat_tup {n : Nat} {ds : List PyData} (h : ∀ d ∈ ds, Flat n d) : Flat (n + 1) (.tuple ds) :=
  ⟨by rw [PyData.canLay0]; exact layAll fun d hd => (h d hd).1, by have := depAll (n := n) fun d hd => (h d hd).2; simp only [PyData.depth]; omega⟩
theorem flat_int (n : Nat) (i : Int) : Flat n (.int i) := ⟨rfl, by simp [PyData.depth]⟩
theorem flat_str (n : Nat) (x : Str) (h : (PyData.str x).canLay0 = true := by decide +kernel) : Flat n (.str x) := ⟨h, by simp [PyData.depth]⟩
theorem flat_bl (n : Nat) (b : Bool) : Flat n (.bool b) := ⟨rfl, by simp [PyData.depth]⟩
theorem flat_non (n : Nat) : Flat n .none := ⟨rfl, by simp [PyData.depth]⟩
theorem Flat.mono {n m : Nat} {d : PyData} (h : Flat n d) (hm : n ≤ m) : Flat m d := ⟨h.1, Nat.le_trans h.2 hm⟩
theorem Flat.sh {n : Nat} {d : PyData} (h : Flat n d) (hn : n ≤ 64) : SeqAt.shaped d = true := by
  show (d.canLay0 && decide (d.depth ≤ 64)) = true
  rw [Bool.and_eq_true]
  exact ⟨h.1, decide_eq_true (Nat.le_trans h.2 hn)⟩
theorem tyx_t {K : PySem.W.Frag} {H : Hp} {a : Addr} {xs : List V} (h : SqT K H a xs) : TyX K H (.ref a) (.type "tuple") := by
  rcases h with (h | ⟨o, h⟩) | ⟨o, its, n, h, hc, _⟩
  · exact .base (.tup h)
  · exact .fTuple h
  · exact .kTuple h hc
theorem tyx_l {K : PySem.W.Frag} {H : Hp} {a : Addr} {xs : List V} (h : SqL K H a xs) : TyX K H (.ref a) (.type "list") := by
  rcases h with (h | ⟨o, h⟩) | ⟨o, its, n, h, hc, _⟩
  · exact .base (.lst h)
  · exact .base (.frz h)
  · exact .kList h hc
theorem same_both {G H : Hp} {t : Addr} {x : HO} (e : Same G H) : Same (upd G t x) (upd H t x) := fun b o h => by
  by_cases hb : b = t
  · subst hb; rw [upd_same] at h ⊢; exact h
  · rw [upd_ne hb] at h ⊢; exact e b o h
theorem set_self {α : Type} : ∀ {l : List α} {i : Nat} {x : α}, l[i]? = some x → l.set i x = l
  | [], i, x, h => by simp at h
  | a :: l, 0, x, h => by
    have e : a = x := Option.some.inj h
    subst e
    rfl
  | a :: l, i + 1, x, h => by
    show a :: l.set i x = a :: l
    rw [set_self (by simpa using h)]
theorem ixn {n j : Nat} {i : Int} (hi : i = (j : Int)) (hj : j < n) : ixN n i = some j := by
  unfold ixN
  rw [if_pos (by omega), if_pos (by omega)]
  congr 1
  omega
/-! shifts and masks in place -/
section
variable {X : Cx}
theorem ip_shr : PIp X .RShift (fun x y H Q => ∃ (i : Int) (k : Nat), x = .int i ∧ y = .int (k : Int) ∧ Q (.int (i / 2 ^ k)) H) := by
  intro pins s σ H x y v u Q I r1 r2 h
  obtain ⟨i, k, e1, e2, q⟩ := h
  subst e1; subst e2
  obtain ⟨t, rfl⟩ := r1
  obtain ⟨t', rfl⟩ := r2
  refine irshift_int (Int.natCast_nonneg k) ⟨.int _, H, I.tok _, ⟨_, rfl⟩, ?_⟩
  rw [Int.toNat_natCast, Int.fdiv_eq_ediv_of_nonneg _ (Int.le_of_lt (Int.pow_pos (by decide)))]
  exact q
theorem ip_or : PIp X .BitOr (fun x y H Q => ∃ (r a : Int) (k : Nat), x = .int r ∧ y = .int (a * 2 ^ k) ∧ (0 ≤ a ∧ 0 ≤ r ∧ r < 2 ^ k) ∧ Q (.int (r + a * 2 ^ k)) H) := by
  intro pins s σ H x y v u Q I r1 r2 h
  obtain ⟨r, a, k, e1, e2, ⟨h0, h1, h2⟩, q⟩ := h
  subst e1; subst e2
  obtain ⟨t, rfl⟩ := r1
  obtain ⟨t', rfl⟩ := r2
  refine ior_int ⟨.int _, H, I.tok _, ⟨_, rfl⟩, ?_⟩
  have e : Builtin.bitOr r (a * 2 ^ k) = r + a * 2 ^ k := by
    have hp : (0 : Int) ≤ a * 2 ^ k := Int.mul_nonneg h0 (Int.le_of_lt (Int.pow_pos (by decide)))
    rw [bitOr_nn h1 hp, Nat.or_comm, ← bitOr_nn hp h1, or_low h0 h1 h2, Int.add_comm]
  rw [e]
  exact q
end
theorem bits_small : ∀ n : Nat, n < 128 → Builtin.Int.intBits (n : Int) ≤ 8 := by decide +kernel
/-- isinstance(e, c) of the error that a suite holds, its class known by the reading -/
theorem call_isE1 {X : Cx} {a D : Addr} {oe : Obj} {cls : Value} {d : Option Addr} {pn : List (Addr × Obj)} (C : ExcC X.K D) (hz : Zc cls d oe) (hf : ∃ vs, oe.data = .fields vs) :
    CallR (X.suite a ((a, oe) :: pn)) (.builtin "isinstance") (fun xs H Q => cls = .ref D ∧ d = none ∧ rIsE X.K D a xs H Q) := fun pins s σ H xs us Q I r h => by
  obtain ⟨h1, h2, h⟩ := h
  subst h1
  subst h2
  exact call_isE C hz hf pins s σ H xs us Q I r h
/-! slices -/
theorem sIx_le {n d : Nat} {i : Nat} : HT.sIx n d (some (i : Int)) = min i n := HT.sIx_nat n d i
theorem cut0n (xs : List V) (j : Nat) : cutV xs none (some (j : Int)) = xs.take j := by
  unfold cutV
  rw [sIx_le, HT.sIx_none, List.drop_zero, Nat.sub_zero]
  exact (List.take_eq_take_min).symm
theorem cutnn (xs : List V) (i j : Nat) : cutV xs (some (i : Int)) (some (j : Int)) = (xs.drop i).take (j - i) := by
  unfold cutV
  rw [sIx_le, sIx_le]
  by_cases hi : i ≤ xs.length
  · rw [Nat.min_eq_left hi]
    by_cases hj : j ≤ xs.length
    · rw [Nat.min_eq_left hj]
    · rw [Nat.min_eq_right (by omega), List.take_of_length_le (by rw [List.length_drop]; omega), List.take_of_length_le (by rw [List.length_drop]; omega)]
  · have e : min i xs.length = xs.length := by omega
    rw [e, List.drop_of_length_le (Nat.le_refl _), List.drop_of_length_le (show xs.length ≤ i by omega), List.take_nil, List.take_nil]
theorem cut_ints (ns : List Int) {i j : Nat} {a b : Int} (ha : a = i) (hb : b = j) : cutV (ns.map V.int) (some a) (some b) = ((ns.drop i).take (j - i)).map V.int := by
  rw [ha, hb, cutnn, ← List.map_drop, ← List.map_take]
theorem rep_ints (ns : List Int) (k : Nat) : (List.replicate k (ns.map V.int)).flatten = (List.replicate k ns).flatten.map V.int := by
  rw [List.map_flatten, List.map_replicate]
/-- [e for x in a slice], e changes nothing -/
theorem lc_cut {K : PySem.W.Frag} {wi : TI} {te : TE} {s : Nat} {σ : L2.St} {H : Hp} {Q : VK} (xs : List V) (f : V → V)
    (hwi : ∀ R : It → Hp → Prop, (∀ p, H p = none → R (Itl K p) (upd H p (.lst xs))) → wi σ H R) (hlen : xs.length ≤ 90000)
    (hw : ∀ x, wipe ((wipe σ [s]).set s (some x)) [s] = wipe σ [s])
    (he : ∀ (i : Nat) (x : V) (G : Hp) (Q' : VK), xs[i]? = some x → Same H G → Q' (f x) G → te ((wipe σ [s]).set s (some x)) G Q')
    (k : ∀ D H', H D = none → Same H H' → H' D = some (.lst (xs.map f)) → Q (.ref D) H') : tLc wi (gName s) tYes te [s] σ H Q := by
  refine hwi _ fun p hp D hD => ?_
  have nD : D ≠ p := fun z => by rw [z, upd_same] at hD; cases hD
  have hD0 : H D = none := by rw [upd_ne nD] at hD; exact hD
  refine lc_list (K := K) (a := p) (xs := xs) (fun i H' => Same H H' ∧ H' p = some (.lst xs) ∧ H' D = some (.lst ((xs.take i).map f)))
    ⟨(same_upd hp).trans (same_upd hD), by rw [upd_ne nD.symm, upd_same], by rw [upd_same]; rfl⟩ (fun i H' _ h => sql h.2.1) (fun i x G hx hG => ?_) (fun G hG => ?_)
  · refine ⟨hw x, ?_⟩
    refine he i x G _ hx hG.1 ⟨_, hG.2.2, szl (by rw [List.length_map, List.length_take]; omega), same_put hG.1 hD0, by rw [upd_ne nD.symm]; exact hG.2.1, ?_⟩
    rw [upd_same, take_more hx, List.map_append]
    rfl
  · refine k D G hD0 hG.1 ?_
    rw [List.take_length] at hG
    exact hG.2.2
/-- lists of ints as data -/
theorem dpa_ints {K : PySem.W.Frag} {H : Hp} : ∀ ns : List Int, DpAll K H (ns.map V.int) (ns.map PyData.int)
  | [] => .nil
  | n :: ns => .cons (.int n) (dpa_ints ns)
theorem dp_ints {K : PySem.W.Frag} {H : Hp} {a : Addr} {ns : List Int} (h : SqL K H a (ns.map V.int)) : Dp K H (.ref a) (.list (ns.map PyData.int)) := .lst h (dpa_ints ns)
theorem flat_ints (ns : List Int) : Flat 1 (.list (ns.map PyData.int)) := flat_list (n := 0) fun d hd => by
  obtain ⟨i, _, rfl⟩ := List.mem_map.mp hd
  exact flat_int _ _
theorem flat_tints (ns : List Int) : Flat 1 (.tuple (ns.map PyData.int)) := flat_tup (n := 0) fun d hd => by
  obtain ⟨i, _, rfl⟩ := List.mem_map.mp hd
  exact flat_int _ _
theorem eqvAll_ints : ∀ xs ys : List Int, PyData.eqvAll (xs.map .int) (ys.map .int) = decide (xs = ys)
  | [], [] => rfl
  | [], _ :: _ => rfl
  | _ :: _, [] => rfl
  | x :: xs, y :: ys => by
    show ((x == y) && PyData.eqvAll (xs.map .int) (ys.map .int)) = _
    rw [eqvAll_ints xs ys, Bool.eq_iff_iff]
    simp
theorem eqv_ints (xs ys : List Int) : PyData.eqv (.list (xs.map .int)) (.list (ys.map .int)) = decide (xs = ys) := eqvAll_ints xs ys
theorem eqv_tints (xs ys : List Int) : PyData.eqv (.tuple (xs.map .int)) (.tuple (ys.map .int)) = decide (xs = ys) := eqvAll_ints xs ys
/-- a def with defaults that lets nothing out -/
theorem okD {P : Program} {w : World} {K : PySem.W.Frag} {mg : Str → Option Value} {base : Heap} {x qual : Str} {params : Arguments} {body : List Stmt} {scope : Scope} {dvs : List V} {kws : List (Str × V)} {f : Addr} {fd : FuncData} {N ps : List Str} {k : Nat} {sp : Sp}
    (F : FunD K x qual params body scope dvs kws f fd) (S : FnScope N ps scope) (len : ∀ vs H Q E, sp vs H Q E → vs.length = ps.length)
    (hb : ∀ (cdv : Value) (A : Around) (outer : List Env) (s : Shared) (H : Hp) (vs : List V) (Q : VK) (E : XK), Room k (A.deeper (envOfC qual scope s.heap.objs.size f cdv)) → sp vs H Q E →
      ∃ t, PSs (cxOf CX0 P w K mg base N qual scope f cdv A outer s H E).nox body t ∧ t { nx := fun _ H' => Q .non H', rt := Q } (start N vs) H) : FnOk P w K mg base CX0 (k + 1) f fd ps sp :=
  F.ok S len fun cdv A outer s H vs Q E hr h => by
    obtain ⟨t, h1, q⟩ := hb cdv A outer s H vs Q E hr h
    exact ⟨t, h1.nox, q⟩
/-! what an expression gives, whatever stands besides -/
def EI (te : TE) (σ : L2.St) (H : Hp) (v : V) : Prop := ∀ G, Same H G → ∀ Q : VK, Q v G → te σ G Q
def EA (ta : TA) (σ : L2.St) (H : Hp) (vs : List V) : Prop := ∀ G, Same H G → ∀ Q : List V → Hp → Prop, Q vs G → ta σ G Q
/-- a list, new or old -/
def EL (te : TE) (σ : L2.St) (H : Hp) (xs : List V) : Prop := ∀ G, Same H G → ∀ Q : VK, (∀ p G', Same G G' → G' p = some (.lst xs) → Q (.ref p) G') → te σ G Q
section
variable {K : PySem.W.Frag} {σ : L2.St} {H : Hp} {ta tb te : TE} {x y z v : V} {xs ys : List V}
theorem ei_var {i : Nat} (h : σ[i]? = some (some v)) : EI (tVar i) σ H v := fun _ _ _ q => ⟨v, h, q⟩
theorem ei_c : EI (tC v) σ H v := fun _ _ _ q => q
theorem ei_op {r : R2} (ha : EI ta σ H x) (hb : EI tb σ H y) (hr : ∀ G, Same H G → ∀ Q : VK, Q z G → r x y G Q) : EI (tOp r ta tb) σ H z := fun G s Q q => ha G s _ (hb G s _ (hr G s Q q))
theorem ei_i0 {g : Int → Int → V} {i j : Int} (ha : EI ta σ H (.int i)) (hb : EI tb σ H (.int j)) : EI (tOp (rI0 g) ta tb) σ H (g i j) := ei_op ha hb fun _ _ _ q => ⟨i, j, rfl, rfl, q⟩
theorem ei_ic {C : Int → Int → Prop} {g : Int → Int → V} {i j : Int} (ha : EI ta σ H (.int i)) (hb : EI tb σ H (.int j)) (hc : C i j) : EI (tOp (rI C g) ta tb) σ H (g i j) := ei_op ha hb fun _ _ _ q => ⟨i, j, rfl, rfl, hc, q⟩
theorem ea_nil : EA tNil σ H [] := fun _ _ _ q => q
theorem ea_cons {tr : TA} {vs : List V} (h : EI ta σ H x) (g : EA tr σ H vs) : EA (tCons ta tr) σ H (x :: vs) := fun G s _ q => h G s _ (g G s _ q)
theorem ei_cb {r : List V → Hp → VK → Prop} {tr : TA} {vs : List V} (ha : EA tr σ H vs) (hr : ∀ G, Same H G → ∀ Q : VK, Q z G → r vs G Q) : EI (tCB r tr) σ H z := fun G s Q q => ha G s _ (hr G s Q q)
/-- len of a list, list(..) of a list or a tuple, as they are read -/
def rLen (K : PySem.W.Frag) : List V → Hp → VK → Prop := fun xs H Q => ∃ p ys, xs = [.ref p] ∧ (SqL K H p ys ∨ SqT K H p ys) ∧ Q (.int ys.length) H
def rLst (K : PySem.W.Frag) : List V → Hp → VK → Prop := fun xs H Q => ∃ p ys, xs = [.ref p] ∧ (SqL K H p ys ∨ SqT K H p ys) ∧ ∀ l, H l = none → Q (.ref l) (upd H l (.lst ys))
def rTup (K : PySem.W.Frag) : List V → Hp → VK → Prop := fun xs H Q => ∃ p ys, xs = [.ref p] ∧ ((SqL K H p ys ∧ ∀ l, H l = none → Q (.ref l) (upd H l (.tup ys))) ∨ (SqT K H p ys ∧ Q (.ref p) H))
theorem callK_tuple {X : Cx} (h : X.K = K) : CallR X (.type "tuple") (rTup K) := by subst h; exact call_tuple_of
theorem callK_list {X : Cx} (h : X.K = K) : CallR X (.type "list") (rLst K) := by subst h; exact call_list_of
theorem opK_catA {X : Cx} (h : X.K = K) : OpR X (binaryOp .Add) (rCatA K) := by subst h; exact op_catA
theorem ixK_list {X : Cx} (h : X.K = K) : IxR X (rIxL K) := by subst h; exact ix_list
theorem ixK_tup {X : Cx} (h : X.K = K) : IxR X (rIxT K) := by subst h; exact ix_tup
theorem pe_fldK {X : Cx} {e : Expr} {f : Str} {pos : Pos} {ta : TE} (h : X.K = K) (he : PE X e ta) (hb : attributeBase e f X.env (eval e X.env) = eval e X.env) : PE X (.Attribute e f pos) (tFld K ta f) := by subst h; exact pe_fld he hb
theorem callK_len {X : Cx} (h : X.K = K) : CallR X (.builtin "len") (rLen K) := by subst h; exact call_len_seq
theorem ei_lenL {i : Nat} {p : Addr} (h : σ[i]? = some (some (.ref p))) (e : SqL K H p xs) : EI (tCB (rLen K) (tCons (tVar i) tNil)) σ H (.int (xs.length : Int)) := ei_cb (ea_cons (ei_var h) ea_nil) fun _ s _ q => ⟨p, xs, rfl, .inl (s.seq e), q⟩
theorem ei_lenT {i : Nat} {p : Addr} (h : σ[i]? = some (some (.ref p))) (e : SqT K H p xs) : EI (tCB (rLen K) (tCons (tVar i) tNil)) σ H (.int (xs.length : Int)) := ei_cb (ea_cons (ei_var h) ea_nil) fun _ s _ q => ⟨p, xs, rfl, .inr (sqt_same s e), q⟩
theorem ei_fld {i : Nat} {p C dx : Addr} {fs : List (Str × V)} {f : Str} (h : σ[i]? = some (some (.ref p))) (hp : H p = some (.ins C dx fs)) (c : Cls K C) (n : NoAttr K C f) (l : fs.lookup f = some v) : EI (tFld K (tVar i) f) σ H v := fun _ s _ q => ⟨.ref p, h, p, C, dx, fs, v, rfl, s _ _ hp, c, n, l, q⟩
theorem ei_din {td : TE} {d : Addr} {kvs : List (Key × V)} {k : Key} (hy : EI te σ H (kV k)) (hd : EI td σ H (.ref d)) (e : H d = some (.dK kvs)) : EI (tDIn te td) σ H (.bl (valV kvs k).isSome) := fun G s _ q => hy G s _ (hd G s _ ⟨d, _, rfl, DGet.k (s _ _ e), q⟩)
theorem ei_dnotin {td : TE} {d : Addr} {kvs : List (Key × V)} {k : Key} (hy : EI te σ H (kV k)) (hd : EI td σ H (.ref d)) (e : H d = some (.dK kvs)) : EI (tDNotIn te td) σ H (.bl (!(valV kvs k).isSome)) := fun G s _ q => hy G s _ (hd G s _ ⟨d, _, rfl, DGet.k (s _ _ e), q⟩)
theorem ei_dget {td : TE} {d : Addr} {kvs : List (Key × V)} {k : Key} (hy : EI te σ H (kV k)) (hd : EI td σ H (.ref d)) (e : H d = some (.dK kvs)) (hv : valV kvs k = some v) : EI (tDGet td te) σ H v := fun G s _ q => hd G s _ (hy G s _ ⟨d, v, rfl, by rw [← hv]; exact DGet.k (s _ _ e), q⟩)
theorem ei_ixL {p : Addr} {j : Int} (ha : EI ta σ H (.ref p)) (hi : EI tb σ H (.int j)) (e : SqL K H p xs) (h : atI xs j = some v) : EI (tOp (rIxL K) ta tb) σ H v := ei_op ha hi fun _ s _ q => ⟨p, xs, j, v, rfl, rfl, s.seq e, h, q⟩
theorem ei_ixT {p : Addr} {j : Int} (ha : EI ta σ H (.ref p)) (hi : EI tb σ H (.int j)) (e : SqT K H p xs) (h : atI xs j = some v) : EI (tOp (rIxT K) ta tb) σ H v := ei_op ha hi fun _ s _ q => ⟨p, xs, j, v, rfl, rfl, sqt_same s e, h, q⟩
theorem ei_eq (ha : EI ta σ H x) (hb : EI tb σ H y) (h : scal x y = true) : EI (tOp rEq ta tb) σ H (.bl (decide (x = y))) := ei_op ha hb fun _ _ _ q => ⟨h, q⟩
theorem ei_ne (ha : EI ta σ H x) (hb : EI tb σ H y) (h : scal x y = true) : EI (tOp rNe ta tb) σ H (.bl (!decide (x = y))) := ei_op ha hb fun _ _ _ q => ⟨h, q⟩
/-- a test by its value -/
theorem tt_use {b : Bool} {Q : Bool → Hp → Prop} (h : EI te σ H (.bl b)) (k : Q b H) : tTest te σ H Q := h H (Same.refl _) _ ⟨b, rfl, k⟩
theorem tb_use {b : Bool} {Q : Bool → Hp → Prop} (h : EI te σ H (.bl b)) (k : Q b H) : tB te σ H Q := h H (Same.refl _) _ ⟨b, rfl, k⟩
theorem el_var {i : Nat} {p : Addr} (h : σ[i]? = some (some (.ref p))) (e : H p = some (.lst xs)) : EL (tVar i) σ H xs := fun G s _ q => ⟨.ref p, h, q p G (Same.refl _) (s _ _ e)⟩
/-- a new list -/
def EN (te : TE) (σ : L2.St) (H : Hp) (xs : List V) : Prop := ∀ G, Same H G → ∀ Q : VK, (∀ p G', G p = none → Same G G' → G' p = some (.lst xs) → Q (.ref p) G') → te σ G Q
theorem EN.el (h : EN te σ H xs) : EL te σ H xs := fun G s Q q => h G s Q fun p G' _ => q p G'
theorem en_lst {tr : TA} {vs : List V} (ha : EA tr σ H vs) (hl : vs.length ≤ 90000) : EN (tLst tr) σ H vs := fun G s _ q => ha G s _ ⟨sz (by omega), fun p hp => q p _ hp (same_upd hp) upd_same⟩
theorem en_cat (ha : EL ta σ H xs) (hb : EL tb σ H ys) (hl : xs.length + ys.length ≤ 90000) : EN (tOp rCat ta tb) σ H (xs ++ ys) := fun G s _ q =>
  ha G s _ fun p G1 s1 e1 => hb G1 (s.trans s1) _ fun p2 G2 s2 e2 => ⟨p, p2, xs, ys, rfl, rfl, s2 _ _ e1, e2, sz (by omega), fun p3 h3 => q p3 _ ((s1.trans s2).free h3) ((s1.trans s2).trans (same_upd h3)) upd_same⟩
theorem en_rep {k : Int} (ha : EL ta σ H xs) (hb : EI tb σ H (.int k)) (h1 : -1000000 ≤ k) (h2 : k ≤ 1000000) (hl : xs.length * k.toNat ≤ 90000) : EN (tOp rRep ta tb) σ H (List.replicate k.toNat xs).flatten := fun G s _ q =>
  ha G s _ fun p G1 s1 e1 => hb G1 (s.trans s1) _ ⟨p, k, xs, rfl, rfl, e1, by omega, by omega, sz (by omega), fun p3 h3 => q p3 _ (s1.free h3) (s1.trans (same_upd h3)) upd_same⟩
theorem el_lst {tr : TA} {vs : List V} (ha : EA tr σ H vs) (hl : vs.length ≤ 90000) : EL (tLst tr) σ H vs := (en_lst ha hl).el
theorem el_cat (ha : EL ta σ H xs) (hb : EL tb σ H ys) (hl : xs.length + ys.length ≤ 90000) : EL (tOp rCat ta tb) σ H (xs ++ ys) := (en_cat ha hb hl).el
theorem el_rep {k : Int} (ha : EL ta σ H xs) (hb : EI tb σ H (.int k)) (h1 : -1000000 ≤ k) (h2 : k ≤ 1000000) (hl : xs.length * k.toNat ≤ 90000) : EL (tOp rRep ta tb) σ H (List.replicate k.toNat xs).flatten := (en_rep ha hb h1 h2 hl).el
theorem el_cb {r : List V → Hp → VK → Prop} {tr : TA} {vs : List V} (ha : EA tr σ H vs) (hr : ∀ G, Same H G → ∀ Q : VK, (∀ p G', Same G G' → G' p = some (.lst xs) → Q (.ref p) G') → r vs G Q) : EL (tCB r tr) σ H xs := fun G s Q q => ha G s _ (hr G s Q q)
theorem el_call {sp : Sp} {dvs : List V} {E : XK} {tr : TA} {vs : List V} (ha : EA tr σ H vs) (hr : ∀ G, Same H G → ∀ Q : VK, (∀ p G', Same G G' → G' p = some (.lst xs) → Q (.ref p) G') → sp (vs ++ dvs) G Q E) : EL (tCall sp dvs E tr) σ H xs := fun G s Q q => ha G s _ (hr G s Q q)
theorem el_listL {i : Nat} {p : Addr} (h : σ[i]? = some (some (.ref p))) (e : SqL K H p xs) : EL (tCB (rLst K) (tCons (tVar i) tNil)) σ H xs := el_cb (ea_cons (ei_var h) ea_nil) fun _ s _ q => ⟨p, xs, rfl, .inl (s.seq e), fun l hl => q l _ (same_upd hl) upd_same⟩
theorem el_listT {i : Nat} {p : Addr} (h : σ[i]? = some (some (.ref p))) (e : SqT K H p xs) : EL (tCB (rLst K) (tCons (tVar i) tNil)) σ H xs := el_cb (ea_cons (ei_var h) ea_nil) fun _ s _ q => ⟨p, xs, rfl, .inr (sqt_same s e), fun l hl => q l _ (same_upd hl) upd_same⟩
/-- x = an expression that gives a list -/
theorem EL.use {Q : VK} (h : EL te σ H xs) (k : ∀ p H', Same H H' → H' p = some (.lst xs) → Q (.ref p) H') : te σ H Q := h H (Same.refl _) Q k
theorem EN.use {Q : VK} (h : EN te σ H xs) (k : ∀ p H', H p = none → Same H H' → H' p = some (.lst xs) → Q (.ref p) H') : te σ H Q := h H (Same.refl _) Q k
theorem EI.use {Q : VK} (h : EI te σ H v) (k : Q v H) : te σ H Q := h H (Same.refl _) Q k
end
/-- defaults: what is bound where keywords give the rest -/
theorem kb_one {K : PySem.W.Frag} {x qual : Str} {params : Arguments} {body : List Stmt} {scope : Scope} {dvs : List V} {f : Addr} {fd : FuncData} {ps : List Str} (F : FunD K x qual params body scope dvs [] f fd) (n : Nat) (ks : List Str) (hd : dvs ≠ [])
    (h : ∀ (T : Addr) (kV doc pm : Value) (an : Option Addr) (cdv ct : Value) (us ws its : List Value), us.length = n → ws.length = ks.length → its.length = dvs.length →
      ∃ k, bindArgs (PySem.W.fnOf x qual params body scope (.ref T) kV doc pm an cdv ct) ⟨us, ks.zip ws⟩ = seqItems? (.ref T) >>= k ∧ k (some its.toArray) = pure (ps.zip (us ++ ws))) :
    KBn K fd ps n ks (fun us ws => us ++ ws) (fun vs zs => vs ++ zs) := by
  obtain ⟨oc, od, dV, kV, doc, pm, an, cdv, ct, osl, rfl, lk, hcd, hD, hK⟩ := F.ex
  rcases hD with ⟨e, _⟩ | ⟨_, T, o, its, m, rfl, lT, oT, rT⟩
  · exact absurd e hd
  · refine ⟨fun s us ws X h1 h2 => BindsTo.of_looks fun M => ?_, fun r1 r2 => r1.append r2⟩
    obtain ⟨k, e1, e2⟩ := h T kV doc pm an cdv ct us ws its h1 h2 rT.length.symm
    rw [e1]
    exact looks_items X lT oT (.of_pure e2)
theorem andV_use {ta tb : TE} {σ : L2.St} {H : Hp} {Q : VK} {x y : Bool} (h1 : EI ta σ H (.bl x)) (h2 : x = true → ∀ Q' : VK, (∀ H', Same H H' → Q' (.bl y) H') → tb σ H Q') (k : ∀ H', Same H H' → Q (.bl (x && y)) H') : tAndV ta tb σ H Q := by
  refine h1 H (Same.refl _) _ ⟨x, rfl, ?_⟩
  cases x with
  | true => exact (if_pos rfl).mpr (h2 rfl _ k)
  | false => exact (if_neg Bool.false_ne_true).mpr (k H (Same.refl _))
/-- what is locked and let go stands as it stood -/
theorem unlock {H H' : Hp} {d : Addr} {od : Obj} {u : HO} (e : H d = some u) (s : Same (upd H d (.frz od u)) H') : Same H (upd H' d u) := fun b o h => by
  by_cases hb : b = d
  · subst hb
    rw [upd_same, ← e]
    exact h
  · rw [upd_ne hb]
    exact s b o (by rw [upd_ne hb]; exact h)
theorem take_filter {α : Type} {l : List α} {i : Nat} {x : α} (f : α → Bool) (h : l[i]? = some x) : (l.take (i + 1)).filter f = (l.take i).filter f ++ if f x then [x] else [] := by
  rw [take_more h, List.filter_append]
  cases e : f x <;> simp [e]
/-- [e for k in d if t] over the keys of a dict, t and e change nothing -/
theorem lc_keys {td te : TE} {tt : TT} {s : Nat} {σ : L2.St} {H : Hp} {Q : VK} (d : Addr) (kvs : List (Key × V)) (f : Key → Bool) (g : Key → V) (e : H d = some (.dK kvs)) (hlen : kvs.length ≤ 90000)
    (htd : ∀ od, EI td σ (upd H d (.frz od (.dK kvs))) (.ref d))
    (hw : ∀ x, wipe ((wipe σ [s]).set s (some x)) [s] = wipe σ [s])
    (ht : ∀ (od : Obj) (i : Nat) (k : Key) (v : V) (G : Hp) (Q' : Bool → Hp → Prop), kvs[i]? = some (k, v) → Same (upd H d (.frz od (.dK kvs))) G → Q' (f k) G → tt ((wipe σ [s]).set s (some (kV k))) G Q')
    (he : ∀ (od : Obj) (i : Nat) (k : Key) (v : V) (G : Hp) (Q' : VK), kvs[i]? = some (k, v) → Same (upd H d (.frz od (.dK kvs))) G → Q' (g k) G → te ((wipe σ [s]).set s (some (kV k))) G Q')
    (k : ∀ D H', H D = none → Same H H' → H' D = some (.lst ((kvs.filter fun kv => f kv.1).map fun kv => g kv.1)) → Q (.ref D) H') : tLockE (tLc (iKeys td) (gName s) tt te [s]) σ H Q := by
  refine ⟨d, _, e, trivial, fun od => htd od _ (Same.refl _) _ ⟨d, od, rfl, .inl ⟨kvs, upd_same, fun D hD => ?_⟩⟩⟩
  have nD : D ≠ d := fun z => by rw [z, upd_same] at hD; cases hD
  have hD0 : H D = none := by rw [upd_ne nD] at hD; exact hD
  refine lc_it walk_keys (fun i G => Same (upd H d (.frz od (.dK kvs))) G ∧ G D = some (.lst (((kvs.take i).filter fun kv => f kv.1).map fun kv => g kv.1)))
    ⟨same_upd hD, upd_same⟩ (fun i G _ h => h.1 _ _ upd_same) (fun i x G G' hi hG hy => ?_) (fun G hG => ?_)
  · obtain ⟨rfl, key, v, hkv, rfl⟩ := hy
    have hfl : ((kvs.take i).filter fun kv => f kv.1).length ≤ 90000 := Nat.le_trans (List.length_filter_le _ _) (by rw [List.length_take]; omega)
    refine ⟨hw _, ht od i key v _ _ hkv hG.1 ?_⟩
    have hts := take_filter (fun kv : Key × V => f kv.1) hkv
    cases hf : f key with
    | true =>
      refine (if_pos rfl).mpr (he od i key v _ _ hkv hG.1 ⟨_, hG.2, szl (by rw [List.length_map]; omega), same_put hG.1 hD, ?_⟩)
      rw [upd_same, hts, List.map_append]
      simp only [hf, if_true]
      rfl
    | false =>
      refine (if_neg Bool.false_ne_true).mpr ⟨hG.1, ?_⟩
      rw [hts]
      simp only [hf, Bool.false_eq_true, if_false, List.append_nil]
      exact hG.2
  · rw [List.take_length] at hG
    refine ⟨hG.1 _ _ upd_same, k D _ hD0 (unlock e hG.1) ?_⟩
    rw [upd_ne nD]
    exact hG.2
theorem put_fresh {kvs : List (Key × V)} {k : Key} {v : V} (h : ∀ kv ∈ kvs, kv.1 ≠ k) : putK kvs k v = kvs ++ [(k, v)] := by
  unfold putK
  rw [if_neg]
  intro z
  obtain ⟨kv, hm, hk⟩ := List.any_eq_true.mp z
  exact h kv hm (of_decide_eq_true hk)
theorem nd_ne {α β : Type} {l : List (α × β)} {i : Nat} {x : α × β} (nd : (l.map (·.1)).Nodup) (h : l[i]? = some x) : ∀ y ∈ l.take i, y.1 ≠ x.1 := fun y hy z => by
  obtain ⟨j, hj, rfl⟩ := List.getElem_of_mem hy
  rw [List.length_take] at hj
  rw [List.getElem_take] at z
  obtain ⟨hi, rfl⟩ := List.getElem?_eq_some_iff.mp h
  have e1 : (l.map (·.1))[j]? = some l[i].1 := by rw [List.getElem?_map, List.getElem?_eq_getElem (by omega), ← z]; rfl
  have e2 : (l.map (·.1))[i]? = some l[i].1 := by rw [List.getElem?_map, List.getElem?_eq_getElem hi]; rfl
  have := nd_ix nd e1 e2
  omega
/-- {k: e for k in d if t} over the keys of a dict -/
theorem dc_keys {td tv : TE} {tt : TT} {s : Nat} {σ : L2.St} {H : Hp} {Q : VK} (d : Addr) (kvs : List (Key × V)) (f : Key → Bool) (g : Key × V → V) (e : H d = some (.dK kvs)) (hlen : kvs.length ≤ 90000) (nd : (kvs.map (·.1)).Nodup)
    (htd : ∀ od, EI td σ (upd H d (.frz od (.dK kvs))) (.ref d))
    (hw : ∀ x, wipe ((wipe σ [s]).set s (some x)) [s] = wipe σ [s])
    (ht : ∀ (od : Obj) (i : Nat) (k : Key) (v : V) (G : Hp) (Q' : Bool → Hp → Prop), kvs[i]? = some (k, v) → Same (upd H d (.frz od (.dK kvs))) G → Q' (f k) G → tt ((wipe σ [s]).set s (some (kV k))) G Q')
    (he : ∀ (od : Obj) (i : Nat) (k : Key) (v : V) (G : Hp) (Q' : VK), kvs[i]? = some (k, v) → f k = true → Same (upd H d (.frz od (.dK kvs))) G → Q' (g (k, v)) G → tv ((wipe σ [s]).set s (some (kV k))) G Q')
    (hn : ∀ i, (wipe σ [s]).length = i → s < i)
    (k : ∀ D H', H D = none → Same H H' → H' D = some (.dK ((kvs.filter fun kv => f kv.1).map fun kv => (kv.1, g kv))) → Q (.ref D) H') : tLockE (tDc (iKeys td) (gName s) tt (tVar s) tv [s]) σ H Q := by
  have hs : s < (wipe σ [s]).length := hn _ rfl
  refine ⟨d, _, e, trivial, fun od => htd od _ (Same.refl _) _ ⟨d, od, rfl, .inl ⟨kvs, upd_same, fun D hD => ?_⟩⟩⟩
  have nD : D ≠ d := fun z => by rw [z, upd_same] at hD; cases hD
  have hD0 : H D = none := by rw [upd_ne nD] at hD; exact hD
  let Pv : Nat → Hp → Prop := fun i G => Same (upd H d (.frz od (.dK kvs))) G ∧ G D = some (.dK (((kvs.take i).filter fun kv => f kv.1).map fun kv => (kv.1, g kv)))
  have step : ∀ i x G G', i < kvs.length → Pv i G → (G' = G ∧ ∃ k v, kvs[i]? = some (k, v) ∧ x = kV k) → gName s x (wipe σ [s]) G' fun σ2 H2 => wipe σ2 [s] = wipe σ [s] ∧ tt σ2 H2 fun b H3 =>
      if b = true then tVar s σ2 H3 fun y H4 => tv σ2 H4 fun z H5 => ∃ kvs' k', y = kV k' ∧ H5 D = some (.dK kvs') ∧ kvs'.length < sizeLine ∧ Pv (i + 1) (upd H5 D (.dK (putK kvs' k' z))) else Pv (i + 1) H3 := fun i x G G' hi hG hy => by
    obtain ⟨rfl, key, v, hkv, rfl⟩ := hy
    have hfl : ((kvs.take i).filter fun kv => f kv.1).length ≤ 90000 := Nat.le_trans (List.length_filter_le _ _) (by rw [List.length_take]; omega)
    refine ⟨hw _, ht od i key v _ _ hkv hG.1 ?_⟩
    have hts := take_filter (fun kv : Key × V => f kv.1) hkv
    cases hf : f key with
    | true =>
      refine (if_pos rfl).mpr ⟨kV key, by rw [List.getElem?_set_self hs], he od i key v _ _ hkv hf hG.1 ⟨_, key, rfl, hG.2, szl (by rw [List.length_map]; omega), same_put hG.1 hD, ?_⟩⟩
      rw [upd_same, hts, List.map_append, put_fresh]
      · simp only [hf, if_true]
        rfl
      · intro kv hm
        obtain ⟨y, hy, rfl⟩ := List.mem_map.mp hm
        exact nd_ne nd hkv y (List.mem_filter.mp hy).1
    | false =>
      refine (if_neg Bool.false_ne_true).mpr ⟨hG.1, ?_⟩
      rw [hts]
      simp only [hf, Bool.false_eq_true, if_false, List.append_nil]
      exact hG.2
  refine ⟨fun i m G => m = kvs.length - i ∧ i ≤ kvs.length ∧ Pv i G, ⟨kvs.length, by simp, Nat.zero_le _, same_upd hD, upd_same⟩, ?_⟩
  rintro i m G ⟨rfl, hi, hP⟩
  by_cases hlt : i < kvs.length
  · exact .inr ⟨⟨hP.1 _ _ upd_same, hlt⟩, Pv (i + 1), fun G' p' => ⟨kvs.length - (i + 1), by omega, rfl, hlt, p'⟩, fun x G' y => step i x G G' hlt hP y⟩
  · have ei : i = kvs.length := by omega
    subst ei
    obtain ⟨h1, h2⟩ := hP
    rw [List.take_length] at h2
    refine .inl ⟨⟨h1 _ _ upd_same, Nat.le_refl _⟩, h1 _ _ upd_same, k D _ hD0 (unlock e h1) ?_⟩
    rw [upd_ne nD]
    exact h2
/-! the same within a comprehension -/
section
variable {K : PySem.W.Frag} {X : Cx} {pos : Pos}
theorem pgK_tup {es : List Expr} {k : Nat} {t : TGs} {n : Nat} (hK : X.K = K) (hc : X.calm = true) (h : PGs X es t)
    (hn : (assignEach es X.env).length = n := by rfl) (hst : (assignEach es X.env).findIdx? (·.1) = none := by rfl) : PG X (.Tuple es k pos) (gTup K n t) := by subst hK; exact pg_tup hc h hn hst
theorem opK_in (h : X.K = K) : OpR X (compareOp .In) (rIn K false) := by subst h; exact op_in_seq
theorem opK_notIn (h : X.K = K) : OpR X (compareOp .NotIn) (rIn K true) := by subst h; exact op_notIn_seq
theorem opK_eqD (h : X.K = K) (hu : X.A.units + 64 < cLine) : OpR X (compareOp .Eq) (rEqD K) := by subst h; exact op_eqD hu
theorem opK_neD (h : X.K = K) (hu : X.A.units + 64 < cLine) : OpR X (compareOp .NotEq) (rNeD K) := by subst h; exact op_neD hu
theorem callK_isi (h : X.K = K) : CallR X (.builtin "isinstance") (rIsi K) := by subst h; exact call_isi
theorem slK_tup (h : X.K = K) : SlR X (rSlT K) := by subst h; exact sl_tup
end
end My
local macro_rules | `(tactic| walk_at "go") => `(tactic| try dsimp only [L2.gName, L2.tSeq, L2.tAsg, L2.tNext, L2.tDrop])
namespace My
open PySem PySem.Spec PyProof.Rows L2
def topS (i : Nat) : Stmt := PySem.Challenge.pw_majordomo_k68_pending_tasks.main.body.getD i (.Pass ⟨0, 0, 0, 0⟩)
abbrev s_pending_tasks : Stmt := (topS 3)
theorem sc_pending_tasks : FnScope ["entries", "tasks", "kind", "name", "born", "_", "value"] ["entries"] (defScope s_pending_tasks) := ⟨rfl, rfl, rfl, by decide +kernel, rfl, by decide +kernel, by decide +kernel⟩
abbrev s__is_pending : Stmt := (topS 4)
theorem sc__is_pending : FnScope ["value"] ["value"] (defScope s__is_pending) := ⟨rfl, rfl, rfl, by decide +kernel, rfl, by decide +kernel, by decide +kernel⟩
abbrev s__law_number : Stmt := (topS 6)
theorem sc__law_number : FnScope ["script", "k", "cell"] ["script", "k"] (defScope s__law_number) := ⟨rfl, rfl, rfl, by decide +kernel, rfl, by decide +kernel, by decide +kernel⟩
abbrev s__law_digits : Stmt := (topS 7)
theorem sc__law_digits : FnScope ["script", "k", "sizes", "number", "digits", "size"] ["script", "k", "sizes"] (defScope s__law_digits) := ⟨rfl, rfl, rfl, by decide +kernel, rfl, by decide +kernel, by decide +kernel⟩
abbrev s__law_entry : Stmt := (topS 8)
theorem sc__law_entry : FnScope ["script", "k", "states", "letters", "low", "letter", "state", "stop", "kind", "large", "born", "name", "value"] ["script", "k"] (defScope s__law_entry) := ⟨rfl, rfl, rfl, by decide +kernel, rfl, by decide +kernel, by decide +kernel⟩
abbrev s_law : Stmt := (topS 9)
theorem sc_law : FnScope ["script", "size", "entries", "kept", "actual", "rows", "entry", "last", "name", "borns", "k", "row"] ["script"] (defScope s_law) := ⟨rfl, rfl, rfl, by decide +kernel, rfl, by decide +kernel, by decide +kernel⟩

structure TX (K : PySem.W.Frag) (mg : Str → Option Value) where
  a_pending_tasks : Addr
  d_pending_tasks : FuncData
  F_pending_tasks : Fun K "pending_tasks" "pending_tasks" s_pending_tasks a_pending_tasks d_pending_tasks
  b_pending_tasks : Binds K d_pending_tasks ["entries"] []
  g_pending_tasks : mg "pending_tasks" = some (.ref a_pending_tasks)
  a__is_pending : Addr
  d__is_pending : FuncData
  F__is_pending : Fun K "_is_pending" "_is_pending" s__is_pending a__is_pending d__is_pending
  b__is_pending : Binds K d__is_pending ["value"] []
  g__is_pending : mg "_is_pending" = some (.ref a__is_pending)
  a__law_number : Addr
  d__law_number : FuncData
  F__law_number : Fun K "_law_number" "_law_number" s__law_number a__law_number d__law_number
  b__law_number : Binds K d__law_number ["script", "k"] []
  g__law_number : mg "_law_number" = some (.ref a__law_number)
  a__law_digits : Addr
  d__law_digits : FuncData
  F__law_digits : Fun K "_law_digits" "_law_digits" s__law_digits a__law_digits d__law_digits
  b__law_digits : Binds K d__law_digits ["script", "k", "sizes"] []
  g__law_digits : mg "_law_digits" = some (.ref a__law_digits)
  a__law_entry : Addr
  d__law_entry : FuncData
  F__law_entry : Fun K "_law_entry" "_law_entry" s__law_entry a__law_entry d__law_entry
  b__law_entry : Binds K d__law_entry ["script", "k"] []
  g__law_entry : mg "_law_entry" = some (.ref a__law_entry)
  a_law : Addr
  d_law : FuncData
  F_law : Fun K "law" "law" s_law a_law d_law
  b_law : Binds K d_law ["script"] []
  g_law : mg "law" = some (.ref a_law)
  t_STATE : Tok
  c_STATE : mg "STATE" = some (.int 3 t_STATE)
  t_STOP : Tok
  c_STOP : mg "STOP" = some (.int 4 t_STOP)
  n_len : mg "len" = none
  n_abs : mg "abs" = none
  n_int : mg "int" = none
  n_sorted : mg "sorted" = none
  n_str : mg "str" = none
  n_range : mg "range" = none
  n_isinstance : mg "isinstance" = none
  n_list : mg "list" = none


/-- a statement that changes nothing, then the rest -/
theorem cut_same {t u : TS} {D : L2.Ends} {σ : L2.St} {H : Hp} (h1 : t { D with nx := fun σ' G => σ' = σ ∧ G = H } σ H) (h2 : u D σ H) : C8.tCut t u D σ H := ⟨_, h1, fun _ _ ⟨a, b⟩ => by rw [a, b]; exact h2⟩
/-- the slots written out -/
theorem nrm4 {t : TS} {D : L2.Ends} {σ : L2.St} {H : Hp} {a0 a1 a2 a3 : Option V} (e : σ = [a0, a1, a2, a3]) (h : t D [a0, a1, a2, a3] H) : t D σ H := by rw [e]; exact h
theorem nrm5 {t : TS} {D : L2.Ends} {σ : L2.St} {H : Hp} {a0 a1 a2 a3 a4 : Option V} (e : σ = [a0, a1, a2, a3, a4]) (h : t D [a0, a1, a2, a3, a4] H) : t D σ H := by rw [e]; exact h
theorem nrm6 {t : TS} {D : L2.Ends} {σ : L2.St} {H : Hp} {a0 a1 a2 a3 a4 a5 : Option V} (e : σ = [a0, a1, a2, a3, a4, a5]) (h : t D [a0, a1, a2, a3, a4, a5] H) : t D σ H := by rw [e]; exact h
theorem nrm7 {t : TS} {D : L2.Ends} {σ : L2.St} {H : Hp} {a0 a1 a2 a3 a4 a5 a6 : Option V} (e : σ = [a0, a1, a2, a3, a4, a5, a6]) (h : t D [a0, a1, a2, a3, a4, a5, a6] H) : t D σ H := by rw [e]; exact h
theorem nrm8 {t : TS} {D : L2.Ends} {σ : L2.St} {H : Hp} {a0 a1 a2 a3 a4 a5 a6 a7 : Option V} (e : σ = [a0, a1, a2, a3, a4, a5, a6, a7]) (h : t D [a0, a1, a2, a3, a4, a5, a6, a7] H) : t D σ H := by rw [e]; exact h
theorem nrm9 {t : TS} {D : L2.Ends} {σ : L2.St} {H : Hp} {a0 a1 a2 a3 a4 a5 a6 a7 a8 : Option V} (e : σ = [a0, a1, a2, a3, a4, a5, a6, a7, a8]) (h : t D [a0, a1, a2, a3, a4, a5, a6, a7, a8] H) : t D σ H := by rw [e]; exact h
theorem nrm10 {t : TS} {D : L2.Ends} {σ : L2.St} {H : Hp} {a0 a1 a2 a3 a4 a5 a6 a7 a8 a9 : Option V} (e : σ = [a0, a1, a2, a3, a4, a5, a6, a7, a8, a9]) (h : t D [a0, a1, a2, a3, a4, a5, a6, a7, a8, a9] H) : t D σ H := by rw [e]; exact h
theorem nrm11 {t : TS} {D : L2.Ends} {σ : L2.St} {H : Hp} {a0 a1 a2 a3 a4 a5 a6 a7 a8 a9 a10 : Option V} (e : σ = [a0, a1, a2, a3, a4, a5, a6, a7, a8, a9, a10]) (h : t D [a0, a1, a2, a3, a4, a5, a6, a7, a8, a9, a10] H) : t D σ H := by rw [e]; exact h
theorem nrm12 {t : TS} {D : L2.Ends} {σ : L2.St} {H : Hp} {a0 a1 a2 a3 a4 a5 a6 a7 a8 a9 a10 a11 : Option V} (e : σ = [a0, a1, a2, a3, a4, a5, a6, a7, a8, a9, a10, a11]) (h : t D [a0, a1, a2, a3, a4, a5, a6, a7, a8, a9, a10, a11] H) : t D σ H := by rw [e]; exact h
theorem nrm13 {t : TS} {D : L2.Ends} {σ : L2.St} {H : Hp} {a0 a1 a2 a3 a4 a5 a6 a7 a8 a9 a10 a11 a12 : Option V} (e : σ = [a0, a1, a2, a3, a4, a5, a6, a7, a8, a9, a10, a11, a12]) (h : t D [a0, a1, a2, a3, a4, a5, a6, a7, a8, a9, a10, a11, a12] H) : t D σ H := by rw [e]; exact h
theorem nrm14 {t : TS} {D : L2.Ends} {σ : L2.St} {H : Hp} {a0 a1 a2 a3 a4 a5 a6 a7 a8 a9 a10 a11 a12 a13 : Option V} (e : σ = [a0, a1, a2, a3, a4, a5, a6, a7, a8, a9, a10, a11, a12, a13]) (h : t D [a0, a1, a2, a3, a4, a5, a6, a7, a8, a9, a10, a11, a12, a13] H) : t D σ H := by rw [e]; exact h
theorem nrm15 {t : TS} {D : L2.Ends} {σ : L2.St} {H : Hp} {a0 a1 a2 a3 a4 a5 a6 a7 a8 a9 a10 a11 a12 a13 a14 : Option V} (e : σ = [a0, a1, a2, a3, a4, a5, a6, a7, a8, a9, a10, a11, a12, a13, a14]) (h : t D [a0, a1, a2, a3, a4, a5, a6, a7, a8, a9, a10, a11, a12, a13, a14] H) : t D σ H := by rw [e]; exact h
theorem nrm16 {t : TS} {D : L2.Ends} {σ : L2.St} {H : Hp} {a0 a1 a2 a3 a4 a5 a6 a7 a8 a9 a10 a11 a12 a13 a14 a15 : Option V} (e : σ = [a0, a1, a2, a3, a4, a5, a6, a7, a8, a9, a10, a11, a12, a13, a14, a15]) (h : t D [a0, a1, a2, a3, a4, a5, a6, a7, a8, a9, a10, a11, a12, a13, a14, a15] H) : t D σ H := by rw [e]; exact h
theorem nrm17 {t : TS} {D : L2.Ends} {σ : L2.St} {H : Hp} {a0 a1 a2 a3 a4 a5 a6 a7 a8 a9 a10 a11 a12 a13 a14 a15 a16 : Option V} (e : σ = [a0, a1, a2, a3, a4, a5, a6, a7, a8, a9, a10, a11, a12, a13, a14, a15, a16]) (h : t D [a0, a1, a2, a3, a4, a5, a6, a7, a8, a9, a10, a11, a12, a13, a14, a15, a16] H) : t D σ H := by rw [e]; exact h
theorem nrm18 {t : TS} {D : L2.Ends} {σ : L2.St} {H : Hp} {a0 a1 a2 a3 a4 a5 a6 a7 a8 a9 a10 a11 a12 a13 a14 a15 a16 a17 : Option V} (e : σ = [a0, a1, a2, a3, a4, a5, a6, a7, a8, a9, a10, a11, a12, a13, a14, a15, a16, a17]) (h : t D [a0, a1, a2, a3, a4, a5, a6, a7, a8, a9, a10, a11, a12, a13, a14, a15, a16, a17] H) : t D σ H := by rw [e]; exact h
theorem nrm19 {t : TS} {D : L2.Ends} {σ : L2.St} {H : Hp} {a0 a1 a2 a3 a4 a5 a6 a7 a8 a9 a10 a11 a12 a13 a14 a15 a16 a17 a18 : Option V} (e : σ = [a0, a1, a2, a3, a4, a5, a6, a7, a8, a9, a10, a11, a12, a13, a14, a15, a16, a17, a18]) (h : t D [a0, a1, a2, a3, a4, a5, a6, a7, a8, a9, a10, a11, a12, a13, a14, a15, a16, a17, a18] H) : t D σ H := by rw [e]; exact h
theorem nrm20 {t : TS} {D : L2.Ends} {σ : L2.St} {H : Hp} {a0 a1 a2 a3 a4 a5 a6 a7 a8 a9 a10 a11 a12 a13 a14 a15 a16 a17 a18 a19 : Option V} (e : σ = [a0, a1, a2, a3, a4, a5, a6, a7, a8, a9, a10, a11, a12, a13, a14, a15, a16, a17, a18, a19]) (h : t D [a0, a1, a2, a3, a4, a5, a6, a7, a8, a9, a10, a11, a12, a13, a14, a15, a16, a17, a18, a19] H) : t D σ H := by rw [e]; exact h
theorem nrm21 {t : TS} {D : L2.Ends} {σ : L2.St} {H : Hp} {a0 a1 a2 a3 a4 a5 a6 a7 a8 a9 a10 a11 a12 a13 a14 a15 a16 a17 a18 a19 a20 : Option V} (e : σ = [a0, a1, a2, a3, a4, a5, a6, a7, a8, a9, a10, a11, a12, a13, a14, a15, a16, a17, a18, a19, a20]) (h : t D [a0, a1, a2, a3, a4, a5, a6, a7, a8, a9, a10, a11, a12, a13, a14, a15, a16, a17, a18, a19, a20] H) : t D σ H := by rw [e]; exact h
theorem nrm22 {t : TS} {D : L2.Ends} {σ : L2.St} {H : Hp} {a0 a1 a2 a3 a4 a5 a6 a7 a8 a9 a10 a11 a12 a13 a14 a15 a16 a17 a18 a19 a20 a21 : Option V} (e : σ = [a0, a1, a2, a3, a4, a5, a6, a7, a8, a9, a10, a11, a12, a13, a14, a15, a16, a17, a18, a19, a20, a21]) (h : t D [a0, a1, a2, a3, a4, a5, a6, a7, a8, a9, a10, a11, a12, a13, a14, a15, a16, a17, a18, a19, a20, a21] H) : t D σ H := by rw [e]; exact h
theorem nrm23 {t : TS} {D : L2.Ends} {σ : L2.St} {H : Hp} {a0 a1 a2 a3 a4 a5 a6 a7 a8 a9 a10 a11 a12 a13 a14 a15 a16 a17 a18 a19 a20 a21 a22 : Option V} (e : σ = [a0, a1, a2, a3, a4, a5, a6, a7, a8, a9, a10, a11, a12, a13, a14, a15, a16, a17, a18, a19, a20, a21, a22]) (h : t D [a0, a1, a2, a3, a4, a5, a6, a7, a8, a9, a10, a11, a12, a13, a14, a15, a16, a17, a18, a19, a20, a21, a22] H) : t D σ H := by rw [e]; exact h
theorem nrm24 {t : TS} {D : L2.Ends} {σ : L2.St} {H : Hp} {a0 a1 a2 a3 a4 a5 a6 a7 a8 a9 a10 a11 a12 a13 a14 a15 a16 a17 a18 a19 a20 a21 a22 a23 : Option V} (e : σ = [a0, a1, a2, a3, a4, a5, a6, a7, a8, a9, a10, a11, a12, a13, a14, a15, a16, a17, a18, a19, a20, a21, a22, a23]) (h : t D [a0, a1, a2, a3, a4, a5, a6, a7, a8, a9, a10, a11, a12, a13, a14, a15, a16, a17, a18, a19, a20, a21, a22, a23] H) : t D σ H := by rw [e]; exact h
theorem nrm25 {t : TS} {D : L2.Ends} {σ : L2.St} {H : Hp} {a0 a1 a2 a3 a4 a5 a6 a7 a8 a9 a10 a11 a12 a13 a14 a15 a16 a17 a18 a19 a20 a21 a22 a23 a24 : Option V} (e : σ = [a0, a1, a2, a3, a4, a5, a6, a7, a8, a9, a10, a11, a12, a13, a14, a15, a16, a17, a18, a19, a20, a21, a22, a23, a24]) (h : t D [a0, a1, a2, a3, a4, a5, a6, a7, a8, a9, a10, a11, a12, a13, a14, a15, a16, a17, a18, a19, a20, a21, a22, a23, a24] H) : t D σ H := by rw [e]; exact h
theorem nrm26 {t : TS} {D : L2.Ends} {σ : L2.St} {H : Hp} {a0 a1 a2 a3 a4 a5 a6 a7 a8 a9 a10 a11 a12 a13 a14 a15 a16 a17 a18 a19 a20 a21 a22 a23 a24 a25 : Option V} (e : σ = [a0, a1, a2, a3, a4, a5, a6, a7, a8, a9, a10, a11, a12, a13, a14, a15, a16, a17, a18, a19, a20, a21, a22, a23, a24, a25]) (h : t D [a0, a1, a2, a3, a4, a5, a6, a7, a8, a9, a10, a11, a12, a13, a14, a15, a16, a17, a18, a19, a20, a21, a22, a23, a24, a25] H) : t D σ H := by rw [e]; exact h
/-- a name is stored, the slots written out -/
theorem gnm4 {i : Nat} {v : V} {σ : L2.St} {H : Hp} {Q : L2.St → Hp → Prop} {a0 a1 a2 a3 : Option V} (e : σ.set i (some v) = [a0, a1, a2, a3]) (h : Q [a0, a1, a2, a3] H) : gName i v σ H Q := by show Q (σ.set i (some v)) H; rw [e]; exact h
theorem gnm5 {i : Nat} {v : V} {σ : L2.St} {H : Hp} {Q : L2.St → Hp → Prop} {a0 a1 a2 a3 a4 : Option V} (e : σ.set i (some v) = [a0, a1, a2, a3, a4]) (h : Q [a0, a1, a2, a3, a4] H) : gName i v σ H Q := by show Q (σ.set i (some v)) H; rw [e]; exact h
theorem gnm6 {i : Nat} {v : V} {σ : L2.St} {H : Hp} {Q : L2.St → Hp → Prop} {a0 a1 a2 a3 a4 a5 : Option V} (e : σ.set i (some v) = [a0, a1, a2, a3, a4, a5]) (h : Q [a0, a1, a2, a3, a4, a5] H) : gName i v σ H Q := by show Q (σ.set i (some v)) H; rw [e]; exact h
theorem gnm7 {i : Nat} {v : V} {σ : L2.St} {H : Hp} {Q : L2.St → Hp → Prop} {a0 a1 a2 a3 a4 a5 a6 : Option V} (e : σ.set i (some v) = [a0, a1, a2, a3, a4, a5, a6]) (h : Q [a0, a1, a2, a3, a4, a5, a6] H) : gName i v σ H Q := by show Q (σ.set i (some v)) H; rw [e]; exact h
theorem gnm8 {i : Nat} {v : V} {σ : L2.St} {H : Hp} {Q : L2.St → Hp → Prop} {a0 a1 a2 a3 a4 a5 a6 a7 : Option V} (e : σ.set i (some v) = [a0, a1, a2, a3, a4, a5, a6, a7]) (h : Q [a0, a1, a2, a3, a4, a5, a6, a7] H) : gName i v σ H Q := by show Q (σ.set i (some v)) H; rw [e]; exact h
theorem gnm9 {i : Nat} {v : V} {σ : L2.St} {H : Hp} {Q : L2.St → Hp → Prop} {a0 a1 a2 a3 a4 a5 a6 a7 a8 : Option V} (e : σ.set i (some v) = [a0, a1, a2, a3, a4, a5, a6, a7, a8]) (h : Q [a0, a1, a2, a3, a4, a5, a6, a7, a8] H) : gName i v σ H Q := by show Q (σ.set i (some v)) H; rw [e]; exact h
theorem gnm10 {i : Nat} {v : V} {σ : L2.St} {H : Hp} {Q : L2.St → Hp → Prop} {a0 a1 a2 a3 a4 a5 a6 a7 a8 a9 : Option V} (e : σ.set i (some v) = [a0, a1, a2, a3, a4, a5, a6, a7, a8, a9]) (h : Q [a0, a1, a2, a3, a4, a5, a6, a7, a8, a9] H) : gName i v σ H Q := by show Q (σ.set i (some v)) H; rw [e]; exact h
theorem gnm11 {i : Nat} {v : V} {σ : L2.St} {H : Hp} {Q : L2.St → Hp → Prop} {a0 a1 a2 a3 a4 a5 a6 a7 a8 a9 a10 : Option V} (e : σ.set i (some v) = [a0, a1, a2, a3, a4, a5, a6, a7, a8, a9, a10]) (h : Q [a0, a1, a2, a3, a4, a5, a6, a7, a8, a9, a10] H) : gName i v σ H Q := by show Q (σ.set i (some v)) H; rw [e]; exact h
theorem gnm12 {i : Nat} {v : V} {σ : L2.St} {H : Hp} {Q : L2.St → Hp → Prop} {a0 a1 a2 a3 a4 a5 a6 a7 a8 a9 a10 a11 : Option V} (e : σ.set i (some v) = [a0, a1, a2, a3, a4, a5, a6, a7, a8, a9, a10, a11]) (h : Q [a0, a1, a2, a3, a4, a5, a6, a7, a8, a9, a10, a11] H) : gName i v σ H Q := by show Q (σ.set i (some v)) H; rw [e]; exact h
theorem gnm13 {i : Nat} {v : V} {σ : L2.St} {H : Hp} {Q : L2.St → Hp → Prop} {a0 a1 a2 a3 a4 a5 a6 a7 a8 a9 a10 a11 a12 : Option V} (e : σ.set i (some v) = [a0, a1, a2, a3, a4, a5, a6, a7, a8, a9, a10, a11, a12]) (h : Q [a0, a1, a2, a3, a4, a5, a6, a7, a8, a9, a10, a11, a12] H) : gName i v σ H Q := by show Q (σ.set i (some v)) H; rw [e]; exact h
theorem gnm14 {i : Nat} {v : V} {σ : L2.St} {H : Hp} {Q : L2.St → Hp → Prop} {a0 a1 a2 a3 a4 a5 a6 a7 a8 a9 a10 a11 a12 a13 : Option V} (e : σ.set i (some v) = [a0, a1, a2, a3, a4, a5, a6, a7, a8, a9, a10, a11, a12, a13]) (h : Q [a0, a1, a2, a3, a4, a5, a6, a7, a8, a9, a10, a11, a12, a13] H) : gName i v σ H Q := by show Q (σ.set i (some v)) H; rw [e]; exact h
theorem gnm15 {i : Nat} {v : V} {σ : L2.St} {H : Hp} {Q : L2.St → Hp → Prop} {a0 a1 a2 a3 a4 a5 a6 a7 a8 a9 a10 a11 a12 a13 a14 : Option V} (e : σ.set i (some v) = [a0, a1, a2, a3, a4, a5, a6, a7, a8, a9, a10, a11, a12, a13, a14]) (h : Q [a0, a1, a2, a3, a4, a5, a6, a7, a8, a9, a10, a11, a12, a13, a14] H) : gName i v σ H Q := by show Q (σ.set i (some v)) H; rw [e]; exact h
theorem gnm16 {i : Nat} {v : V} {σ : L2.St} {H : Hp} {Q : L2.St → Hp → Prop} {a0 a1 a2 a3 a4 a5 a6 a7 a8 a9 a10 a11 a12 a13 a14 a15 : Option V} (e : σ.set i (some v) = [a0, a1, a2, a3, a4, a5, a6, a7, a8, a9, a10, a11, a12, a13, a14, a15]) (h : Q [a0, a1, a2, a3, a4, a5, a6, a7, a8, a9, a10, a11, a12, a13, a14, a15] H) : gName i v σ H Q := by show Q (σ.set i (some v)) H; rw [e]; exact h
theorem gnm17 {i : Nat} {v : V} {σ : L2.St} {H : Hp} {Q : L2.St → Hp → Prop} {a0 a1 a2 a3 a4 a5 a6 a7 a8 a9 a10 a11 a12 a13 a14 a15 a16 : Option V} (e : σ.set i (some v) = [a0, a1, a2, a3, a4, a5, a6, a7, a8, a9, a10, a11, a12, a13, a14, a15, a16]) (h : Q [a0, a1, a2, a3, a4, a5, a6, a7, a8, a9, a10, a11, a12, a13, a14, a15, a16] H) : gName i v σ H Q := by show Q (σ.set i (some v)) H; rw [e]; exact h
theorem gnm18 {i : Nat} {v : V} {σ : L2.St} {H : Hp} {Q : L2.St → Hp → Prop} {a0 a1 a2 a3 a4 a5 a6 a7 a8 a9 a10 a11 a12 a13 a14 a15 a16 a17 : Option V} (e : σ.set i (some v) = [a0, a1, a2, a3, a4, a5, a6, a7, a8, a9, a10, a11, a12, a13, a14, a15, a16, a17]) (h : Q [a0, a1, a2, a3, a4, a5, a6, a7, a8, a9, a10, a11, a12, a13, a14, a15, a16, a17] H) : gName i v σ H Q := by show Q (σ.set i (some v)) H; rw [e]; exact h
theorem gnm19 {i : Nat} {v : V} {σ : L2.St} {H : Hp} {Q : L2.St → Hp → Prop} {a0 a1 a2 a3 a4 a5 a6 a7 a8 a9 a10 a11 a12 a13 a14 a15 a16 a17 a18 : Option V} (e : σ.set i (some v) = [a0, a1, a2, a3, a4, a5, a6, a7, a8, a9, a10, a11, a12, a13, a14, a15, a16, a17, a18]) (h : Q [a0, a1, a2, a3, a4, a5, a6, a7, a8, a9, a10, a11, a12, a13, a14, a15, a16, a17, a18] H) : gName i v σ H Q := by show Q (σ.set i (some v)) H; rw [e]; exact h
theorem gnm20 {i : Nat} {v : V} {σ : L2.St} {H : Hp} {Q : L2.St → Hp → Prop} {a0 a1 a2 a3 a4 a5 a6 a7 a8 a9 a10 a11 a12 a13 a14 a15 a16 a17 a18 a19 : Option V} (e : σ.set i (some v) = [a0, a1, a2, a3, a4, a5, a6, a7, a8, a9, a10, a11, a12, a13, a14, a15, a16, a17, a18, a19]) (h : Q [a0, a1, a2, a3, a4, a5, a6, a7, a8, a9, a10, a11, a12, a13, a14, a15, a16, a17, a18, a19] H) : gName i v σ H Q := by show Q (σ.set i (some v)) H; rw [e]; exact h
theorem gnm21 {i : Nat} {v : V} {σ : L2.St} {H : Hp} {Q : L2.St → Hp → Prop} {a0 a1 a2 a3 a4 a5 a6 a7 a8 a9 a10 a11 a12 a13 a14 a15 a16 a17 a18 a19 a20 : Option V} (e : σ.set i (some v) = [a0, a1, a2, a3, a4, a5, a6, a7, a8, a9, a10, a11, a12, a13, a14, a15, a16, a17, a18, a19, a20]) (h : Q [a0, a1, a2, a3, a4, a5, a6, a7, a8, a9, a10, a11, a12, a13, a14, a15, a16, a17, a18, a19, a20] H) : gName i v σ H Q := by show Q (σ.set i (some v)) H; rw [e]; exact h
theorem gnm22 {i : Nat} {v : V} {σ : L2.St} {H : Hp} {Q : L2.St → Hp → Prop} {a0 a1 a2 a3 a4 a5 a6 a7 a8 a9 a10 a11 a12 a13 a14 a15 a16 a17 a18 a19 a20 a21 : Option V} (e : σ.set i (some v) = [a0, a1, a2, a3, a4, a5, a6, a7, a8, a9, a10, a11, a12, a13, a14, a15, a16, a17, a18, a19, a20, a21]) (h : Q [a0, a1, a2, a3, a4, a5, a6, a7, a8, a9, a10, a11, a12, a13, a14, a15, a16, a17, a18, a19, a20, a21] H) : gName i v σ H Q := by show Q (σ.set i (some v)) H; rw [e]; exact h
theorem gnm23 {i : Nat} {v : V} {σ : L2.St} {H : Hp} {Q : L2.St → Hp → Prop} {a0 a1 a2 a3 a4 a5 a6 a7 a8 a9 a10 a11 a12 a13 a14 a15 a16 a17 a18 a19 a20 a21 a22 : Option V} (e : σ.set i (some v) = [a0, a1, a2, a3, a4, a5, a6, a7, a8, a9, a10, a11, a12, a13, a14, a15, a16, a17, a18, a19, a20, a21, a22]) (h : Q [a0, a1, a2, a3, a4, a5, a6, a7, a8, a9, a10, a11, a12, a13, a14, a15, a16, a17, a18, a19, a20, a21, a22] H) : gName i v σ H Q := by show Q (σ.set i (some v)) H; rw [e]; exact h
theorem gnm24 {i : Nat} {v : V} {σ : L2.St} {H : Hp} {Q : L2.St → Hp → Prop} {a0 a1 a2 a3 a4 a5 a6 a7 a8 a9 a10 a11 a12 a13 a14 a15 a16 a17 a18 a19 a20 a21 a22 a23 : Option V} (e : σ.set i (some v) = [a0, a1, a2, a3, a4, a5, a6, a7, a8, a9, a10, a11, a12, a13, a14, a15, a16, a17, a18, a19, a20, a21, a22, a23]) (h : Q [a0, a1, a2, a3, a4, a5, a6, a7, a8, a9, a10, a11, a12, a13, a14, a15, a16, a17, a18, a19, a20, a21, a22, a23] H) : gName i v σ H Q := by show Q (σ.set i (some v)) H; rw [e]; exact h
theorem gnm25 {i : Nat} {v : V} {σ : L2.St} {H : Hp} {Q : L2.St → Hp → Prop} {a0 a1 a2 a3 a4 a5 a6 a7 a8 a9 a10 a11 a12 a13 a14 a15 a16 a17 a18 a19 a20 a21 a22 a23 a24 : Option V} (e : σ.set i (some v) = [a0, a1, a2, a3, a4, a5, a6, a7, a8, a9, a10, a11, a12, a13, a14, a15, a16, a17, a18, a19, a20, a21, a22, a23, a24]) (h : Q [a0, a1, a2, a3, a4, a5, a6, a7, a8, a9, a10, a11, a12, a13, a14, a15, a16, a17, a18, a19, a20, a21, a22, a23, a24] H) : gName i v σ H Q := by show Q (σ.set i (some v)) H; rw [e]; exact h
theorem gnm26 {i : Nat} {v : V} {σ : L2.St} {H : Hp} {Q : L2.St → Hp → Prop} {a0 a1 a2 a3 a4 a5 a6 a7 a8 a9 a10 a11 a12 a13 a14 a15 a16 a17 a18 a19 a20 a21 a22 a23 a24 a25 : Option V} (e : σ.set i (some v) = [a0, a1, a2, a3, a4, a5, a6, a7, a8, a9, a10, a11, a12, a13, a14, a15, a16, a17, a18, a19, a20, a21, a22, a23, a24, a25]) (h : Q [a0, a1, a2, a3, a4, a5, a6, a7, a8, a9, a10, a11, a12, a13, a14, a15, a16, a17, a18, a19, a20, a21, a22, a23, a24, a25] H) : gName i v σ H Q := by show Q (σ.set i (some v)) H; rw [e]; exact h
/-! comprehensions whose elements are data -/
/-- what stood in G away from D stands in G'' -/
def Off (D : Addr) (G G'' : Hp) : Prop := ∀ b o, b ≠ D → G b = some o → G'' b = some o
theorem Off.refl (D : Addr) (G : Hp) : Off D G G := fun _ _ _ h => h
theorem Off.pre {D : Addr} {G G' G'' : Hp} (s : Same G G') (h : Off D G' G'') : Off D G G'' := fun b o n e => h b o n (s b o e)
theorem Off.put {D : Addr} {G G'' : Hp} {o : HO} (h : Off D (upd G D o) G'') : Off D G G'' := fun b u n e => h b u n (by rw [upd_ne n]; exact e)
theorem lcg {K : PySem.W.Frag} {J : It} {n : Nat} {Gd : Hp → Prop} {Y : Nat → Hp → V → Hp → Prop} (w : Walk J n Gd Y) {g : TG} {tt : TT} {te : TE} {vs : List Nat} {σ : L2.St} {H : Hp} {D : Addr} {Qd : Hp → Prop}
    (P : Nat → List PyData → Prop) (h0 : P 0 []) (hD : H D = none) (hG : ∀ G, Same H G → Gd G) (hn : n ≤ 90000)
    (hs : ∀ i x G G1 ds, i < n → Same H G → (∃ l, G D = some (.lst l)) → P i ds → Y i G x G1 → ∀ J : Option V → Hp → Prop, (∀ G', Same G G' → P (i + 1) ds → J none G') →
      (∀ y d G', Same G G' → (∀ G'', Same H G'' → Off D G' G'' → Dp K G'' y d) → P (i + 1) (ds ++ [d]) → J (some y) G') →
      g x (wipe σ vs) G1 fun σ2 H2 => wipe σ2 vs = wipe σ vs ∧ tt σ2 H2 fun b H3 => if b = true then te σ2 H3 fun y H4 => J (some y) H4 else J none H3)
    (k : ∀ H' ys ds, Same H H' → H' D = some (.lst ys) → DpAll K H' ys ds → P n ds → Qd H') :
    ∃ W : Nat → Nat → Hp → Prop, (∃ m, W 0 m (upd H D (.lst []))) ∧ ∀ i m H, W i m H →
      (J.stop i H ∧ Qd H) ∨ (J.go i H ∧ ∃ Nx : Hp → Prop, (∀ H', Nx H' → ∃ m', m' < m ∧ W (i + 1) m' H') ∧ ∀ x H', J.yld i H x H' → g x (wipe σ vs) H' fun σ2 H2 => wipe σ2 vs = wipe σ vs ∧ tt σ2 H2 fun b H3 =>
        if b = true then te σ2 H3 fun y H4 => ∃ acc, H4 D = some (.lst acc) ∧ acc.length < sizeLine ∧ Nx (upd H4 D (.lst (acc ++ [y]))) else Nx H3) := by
  refine lc_it w (fun i G => ∃ ys ds, Same H G ∧ G D = some (.lst ys) ∧ (∀ G'', Same H G'' → Off D G G'' → DpAll K G'' ys ds) ∧ P i ds ∧ ds.length ≤ i) ⟨[], [], same_upd hD, upd_same, fun _ _ _ => .nil, h0, Nat.le_refl _⟩ (fun i G _ h => hG G h.choose_spec.choose_spec.1) ?_ ?_
  · rintro i x G G1 hi ⟨ys, ds, s1, e1, h1, p1, l1⟩ hy
    have hl : ys.length = ds.length := dpa_len (h1 G s1 (Off.refl _ _))
    refine hs i x G G1 ds hi s1 ⟨ys, e1⟩ p1 hy (fun o G' => match o with
      | some y => ∃ acc, G' D = some (.lst acc) ∧ acc.length < sizeLine ∧ ∃ ys ds, Same H (upd G' D (.lst (acc ++ [y]))) ∧ (upd G' D (.lst (acc ++ [y]))) D = some (.lst ys) ∧ (∀ G'', Same H G'' → Off D (upd G' D (.lst (acc ++ [y]))) G'' → DpAll K G'' ys ds) ∧ P (i + 1) ds ∧ ds.length ≤ i + 1
      | none => ∃ ys ds, Same H G' ∧ G' D = some (.lst ys) ∧ (∀ G'', Same H G'' → Off D G' G'' → DpAll K G'' ys ds) ∧ P (i + 1) ds ∧ ds.length ≤ i + 1) ?_ ?_
    · exact fun G' s p => ⟨ys, ds, s1.trans s, s _ _ e1, fun G'' s2 o => h1 G'' s2 (Off.pre s o), p, by omega⟩
    · exact fun y d G' s hy p => ⟨ys, s _ _ e1, szl (by omega), ys ++ [y], ds ++ [d], same_put (s1.trans s) hD, upd_same, fun G'' s2 o => dpa_app (h1 G'' s2 (Off.pre s o.put)) (.cons (hy G'' s2 o.put) .nil), p, by rw [List.length_append]; simp only [List.length_cons, List.length_nil]; omega⟩
  · rintro G ⟨ys, ds, s1, e1, h1, p1, _⟩
    exact k G ys ds s1 e1 (h1 G s1 (Off.refl _ _)) p1
/-- over a list of data, each element by a function -/
theorem lcd {α : Type} {K : PySem.W.Frag} {g : TG} {tt : TT} {te : TE} {vs : List Nat} {σ : L2.St} {H : Hp} {D a : Addr} {Qd : Hp → Prop} {xs : List V} (es : List α) (pd : α → PyData) (f : α → Option PyData)
    (hD : H D = none) (hL : SqL K H a xs) (hx : DpAll K H xs (es.map pd)) (hn : es.length ≤ 90000)
    (hs : ∀ x e G, e ∈ es → Same H G → (∃ l, G D = some (.lst l)) → Dp K H x (pd e) → ∀ J : Option V → Hp → Prop, (∀ G', Same G G' → f e = none → J none G') →
      (∀ y d G', Same G G' → (∀ G'', Same H G'' → Off D G' G'' → Dp K G'' y d) → f e = some d → J (some y) G') →
      g x (wipe σ vs) G fun σ2 H2 => wipe σ2 vs = wipe σ vs ∧ tt σ2 H2 fun b H3 => if b = true then te σ2 H3 fun y H4 => J (some y) H4 else J none H3)
    (k : ∀ H' ys, Same H H' → H' D = some (.lst ys) → DpAll K H' ys (es.filterMap f) → Qd H') :
    ∃ W : Nat → Nat → Hp → Prop, (∃ m, W 0 m (upd H D (.lst []))) ∧ ∀ i m H, W i m H →
      ((Itl K a).stop i H ∧ Qd H) ∨ ((Itl K a).go i H ∧ ∃ Nx : Hp → Prop, (∀ H', Nx H' → ∃ m', m' < m ∧ W (i + 1) m' H') ∧ ∀ x H', (Itl K a).yld i H x H' → g x (wipe σ vs) H' fun σ2 H2 => wipe σ2 vs = wipe σ vs ∧ tt σ2 H2 fun b H3 =>
        if b = true then te σ2 H3 fun y H4 => ∃ acc, H4 D = some (.lst acc) ∧ acc.length < sizeLine ∧ Nx (upd H4 D (.lst (acc ++ [y]))) else Nx H3) := by
  have hl : xs.length = es.length := by have := dpa_len hx; rwa [List.length_map] at this
  refine lcg (K := K) (walk_list (K := K) (a := a) (xs := xs)) (fun i ds => ds = (es.take i).filterMap f) rfl hD (fun G s => s.seq hL) (by omega) ?_ ?_
  · rintro i x G G1 ds hi s1 hl1 rfl ⟨rfl, hxi⟩ J j1 j2
    have hi2 : i < es.length := by omega
    have he : es[i]? = some es[i] := List.getElem?_eq_getElem hi2
    obtain ⟨d, hd, hdp⟩ := dpa_at hx hxi
    rw [List.getElem?_map, he] at hd
    cases hd
    have ht : (es.take (i + 1)).filterMap f = (es.take i).filterMap f ++ (f es[i]).toList := by
      rw [take_more he, List.filterMap_append]
      cases e : f es[i] <;> simp [e]
    refine hs x es[i] G1 (List.getElem_mem hi2) s1 hl1 hdp J (fun G' s e => j1 G' s ?_) (fun y d G' s hy e => j2 y d G' s hy ?_)
    · rw [ht, e]; simp
    · rw [ht, e]; rfl
  · rintro H' ys ds s1 e1 h1 rfl
    rw [hl, List.take_length] at h1
    exact k H' ys s1 e1 h1
/-! data taken apart -/
theorem dp_tup {K : PySem.W.Frag} {H : Hp} {x : V} {ds : List PyData} (h : Dp K H x (.tuple ds)) : ∃ p vs, x = .ref p ∧ SqT K H p vs ∧ DpAll K H vs ds := by
  cases h with
  | tup h a => exact ⟨_, _, rfl, h, a⟩
theorem dp_str {K : PySem.W.Frag} {H : Hp} {x : V} {s : Str} (h : Dp K H x (.str s)) : x = .str s := by cases h; rfl
theorem dp_int {K : PySem.W.Frag} {H : Hp} {x : V} {i : Int} (h : Dp K H x (.int i)) : x = .int i := by cases h; rfl
theorem dp_bl {K : PySem.W.Frag} {H : Hp} {x : V} {i : Bool} (h : Dp K H x (.bool i)) : x = .bl i := by cases h; rfl
theorem dpa_nil {K : PySem.W.Frag} {H : Hp} {vs : List V} (h : DpAll K H vs []) : vs = [] := by cases h; rfl
theorem dpa_cons {K : PySem.W.Frag} {H : Hp} {vs : List V} {d : PyData} {ds : List PyData} (h : DpAll K H vs (d :: ds)) : ∃ v ws, vs = v :: ws ∧ Dp K H v d ∧ DpAll K H ws ds := by
  cases h with
  | cons h a => exact ⟨_, _, rfl, h, a⟩
theorem dpa_str {K : PySem.W.Frag} {H : Hp} {vs : List V} {s : Str} {ds : List PyData} (h : DpAll K H vs (.str s :: ds)) : ∃ ws, vs = .str s :: ws ∧ DpAll K H ws ds := by
  obtain ⟨v, ws, rfl, h1, h2⟩ := dpa_cons h
  exact ⟨ws, by rw [dp_str h1], h2⟩
theorem dpa_int {K : PySem.W.Frag} {H : Hp} {vs : List V} {s : Int} {ds : List PyData} (h : DpAll K H vs (.int s :: ds)) : ∃ ws, vs = .int s :: ws ∧ DpAll K H ws ds := by
  obtain ⟨v, ws, rfl, h1, h2⟩ := dpa_cons h
  exact ⟨ws, by rw [dp_int h1], h2⟩
theorem dpa_bl {K : PySem.W.Frag} {H : Hp} {vs : List V} {s : Bool} {ds : List PyData} (h : DpAll K H vs (.bool s :: ds)) : ∃ ws, vs = .bl s :: ws ∧ DpAll K H ws ds := by
  obtain ⟨v, ws, rfl, h1, h2⟩ := dpa_cons h
  exact ⟨ws, by rw [dp_bl h1], h2⟩
theorem fm_if {α β : Type} (p : α → Bool) (g : α → β) : ∀ l : List α, l.filterMap (fun e => if p e = true then some (g e) else none) = (l.filter p).map g
  | [] => rfl
  | a :: l => by
    have ih := fm_if p g l
    cases h : p a <;> simp [h, ih]
theorem dp_t1 {K : PySem.W.Frag} {H : Hp} {x : V} {d0 : PyData} (h : Dp K H x (.tuple [d0])) : ∃ p v0, x = .ref p ∧ SqT K H p [v0] ∧ Dp K H v0 d0 := by
  obtain ⟨p, vs, rfl, ht, h0⟩ := dp_tup h
  cases h0 with | cons g0 h1 =>
  cases h1
  exact ⟨p, _, rfl, ht, g0⟩
theorem dp_t2 {K : PySem.W.Frag} {H : Hp} {x : V} {d0 d1 : PyData} (h : Dp K H x (.tuple [d0, d1])) : ∃ p v0 v1, x = .ref p ∧ SqT K H p [v0, v1] ∧ Dp K H v0 d0 ∧ Dp K H v1 d1 := by
  obtain ⟨p, vs, rfl, ht, h0⟩ := dp_tup h
  cases h0 with | cons g0 h1 =>
  cases h1 with | cons g1 h2 =>
  cases h2
  exact ⟨p, _, _, rfl, ht, g0, g1⟩
theorem dp_t3 {K : PySem.W.Frag} {H : Hp} {x : V} {d0 d1 d2 : PyData} (h : Dp K H x (.tuple [d0, d1, d2])) : ∃ p v0 v1 v2, x = .ref p ∧ SqT K H p [v0, v1, v2] ∧ Dp K H v0 d0 ∧ Dp K H v1 d1 ∧ Dp K H v2 d2 := by
  obtain ⟨p, vs, rfl, ht, h0⟩ := dp_tup h
  cases h0 with | cons g0 h1 =>
  cases h1 with | cons g1 h2 =>
  cases h2 with | cons g2 h3 =>
  cases h3
  exact ⟨p, _, _, _, rfl, ht, g0, g1, g2⟩
theorem dp_t4 {K : PySem.W.Frag} {H : Hp} {x : V} {d0 d1 d2 d3 : PyData} (h : Dp K H x (.tuple [d0, d1, d2, d3])) : ∃ p v0 v1 v2 v3, x = .ref p ∧ SqT K H p [v0, v1, v2, v3] ∧ Dp K H v0 d0 ∧ Dp K H v1 d1 ∧ Dp K H v2 d2 ∧ Dp K H v3 d3 := by
  obtain ⟨p, vs, rfl, ht, h0⟩ := dp_tup h
  cases h0 with | cons g0 h1 =>
  cases h1 with | cons g1 h2 =>
  cases h2 with | cons g2 h3 =>
  cases h3 with | cons g3 h4 =>
  cases h4
  exact ⟨p, _, _, _, _, rfl, ht, g0, g1, g2, g3⟩
theorem dp_t5 {K : PySem.W.Frag} {H : Hp} {x : V} {d0 d1 d2 d3 d4 : PyData} (h : Dp K H x (.tuple [d0, d1, d2, d3, d4])) : ∃ p v0 v1 v2 v3 v4, x = .ref p ∧ SqT K H p [v0, v1, v2, v3, v4] ∧ Dp K H v0 d0 ∧ Dp K H v1 d1 ∧ Dp K H v2 d2 ∧ Dp K H v3 d3 ∧ Dp K H v4 d4 := by
  obtain ⟨p, vs, rfl, ht, h0⟩ := dp_tup h
  cases h0 with | cons g0 h1 =>
  cases h1 with | cons g1 h2 =>
  cases h2 with | cons g2 h3 =>
  cases h3 with | cons g3 h4 =>
  cases h4 with | cons g4 h5 =>
  cases h5
  exact ⟨p, _, _, _, _, _, rfl, ht, g0, g1, g2, g3, g4⟩
theorem dp_t6 {K : PySem.W.Frag} {H : Hp} {x : V} {d0 d1 d2 d3 d4 d5 : PyData} (h : Dp K H x (.tuple [d0, d1, d2, d3, d4, d5])) : ∃ p v0 v1 v2 v3 v4 v5, x = .ref p ∧ SqT K H p [v0, v1, v2, v3, v4, v5] ∧ Dp K H v0 d0 ∧ Dp K H v1 d1 ∧ Dp K H v2 d2 ∧ Dp K H v3 d3 ∧ Dp K H v4 d4 ∧ Dp K H v5 d5 := by
  obtain ⟨p, vs, rfl, ht, h0⟩ := dp_tup h
  cases h0 with | cons g0 h1 =>
  cases h1 with | cons g1 h2 =>
  cases h2 with | cons g2 h3 =>
  cases h3 with | cons g3 h4 =>
  cases h4 with | cons g4 h5 =>
  cases h5 with | cons g5 h6 =>
  cases h6
  exact ⟨p, _, _, _, _, _, _, rfl, ht, g0, g1, g2, g3, g4, g5⟩
theorem dp_t7 {K : PySem.W.Frag} {H : Hp} {x : V} {d0 d1 d2 d3 d4 d5 d6 : PyData} (h : Dp K H x (.tuple [d0, d1, d2, d3, d4, d5, d6])) : ∃ p v0 v1 v2 v3 v4 v5 v6, x = .ref p ∧ SqT K H p [v0, v1, v2, v3, v4, v5, v6] ∧ Dp K H v0 d0 ∧ Dp K H v1 d1 ∧ Dp K H v2 d2 ∧ Dp K H v3 d3 ∧ Dp K H v4 d4 ∧ Dp K H v5 d5 ∧ Dp K H v6 d6 := by
  obtain ⟨p, vs, rfl, ht, h0⟩ := dp_tup h
  cases h0 with | cons g0 h1 =>
  cases h1 with | cons g1 h2 =>
  cases h2 with | cons g2 h3 =>
  cases h3 with | cons g3 h4 =>
  cases h4 with | cons g4 h5 =>
  cases h5 with | cons g5 h6 =>
  cases h6 with | cons g6 h7 =>
  cases h7
  exact ⟨p, _, _, _, _, _, _, _, rfl, ht, g0, g1, g2, g3, g4, g5, g6⟩
theorem dp_t8 {K : PySem.W.Frag} {H : Hp} {x : V} {d0 d1 d2 d3 d4 d5 d6 d7 : PyData} (h : Dp K H x (.tuple [d0, d1, d2, d3, d4, d5, d6, d7])) : ∃ p v0 v1 v2 v3 v4 v5 v6 v7, x = .ref p ∧ SqT K H p [v0, v1, v2, v3, v4, v5, v6, v7] ∧ Dp K H v0 d0 ∧ Dp K H v1 d1 ∧ Dp K H v2 d2 ∧ Dp K H v3 d3 ∧ Dp K H v4 d4 ∧ Dp K H v5 d5 ∧ Dp K H v6 d6 ∧ Dp K H v7 d7 := by
  obtain ⟨p, vs, rfl, ht, h0⟩ := dp_tup h
  cases h0 with | cons g0 h1 =>
  cases h1 with | cons g1 h2 =>
  cases h2 with | cons g2 h3 =>
  cases h3 with | cons g3 h4 =>
  cases h4 with | cons g4 h5 =>
  cases h5 with | cons g5 h6 =>
  cases h6 with | cons g6 h7 =>
  cases h7 with | cons g7 h8 =>
  cases h8
  exact ⟨p, _, _, _, _, _, _, _, _, rfl, ht, g0, g1, g2, g3, g4, g5, g6, g7⟩
theorem dp_t9 {K : PySem.W.Frag} {H : Hp} {x : V} {d0 d1 d2 d3 d4 d5 d6 d7 d8 : PyData} (h : Dp K H x (.tuple [d0, d1, d2, d3, d4, d5, d6, d7, d8])) : ∃ p v0 v1 v2 v3 v4 v5 v6 v7 v8, x = .ref p ∧ SqT K H p [v0, v1, v2, v3, v4, v5, v6, v7, v8] ∧ Dp K H v0 d0 ∧ Dp K H v1 d1 ∧ Dp K H v2 d2 ∧ Dp K H v3 d3 ∧ Dp K H v4 d4 ∧ Dp K H v5 d5 ∧ Dp K H v6 d6 ∧ Dp K H v7 d7 ∧ Dp K H v8 d8 := by
  obtain ⟨p, vs, rfl, ht, h0⟩ := dp_tup h
  cases h0 with | cons g0 h1 =>
  cases h1 with | cons g1 h2 =>
  cases h2 with | cons g2 h3 =>
  cases h3 with | cons g3 h4 =>
  cases h4 with | cons g4 h5 =>
  cases h5 with | cons g5 h6 =>
  cases h6 with | cons g6 h7 =>
  cases h7 with | cons g7 h8 =>
  cases h8 with | cons g8 h9 =>
  cases h9
  exact ⟨p, _, _, _, _, _, _, _, _, _, rfl, ht, g0, g1, g2, g3, g4, g5, g6, g7, g8⟩
theorem tf_no {α : Type} {l : List α} {i : Nat} {x : α} {f : α → Bool} (h : l[i]? = some x) (hf : f x = false) : (l.take (i + 1)).filter f = (l.take i).filter f := by
  rw [take_filter f h, hf]
  simp
theorem tf_yes {α : Type} {l : List α} {i : Nat} {x : α} {f : α → Bool} (h : l[i]? = some x) (hf : f x = true) : ((l.take (i + 1)).filter f).length = ((l.take i).filter f).length + 1 := by
  rw [take_filter f h, hf]
  simp
/-! the digits of a script's cell -/
def Digs : List Int → List Int → Prop
  | [], [] => True
  | d :: ds, z :: zs => (0 ≤ d ∧ d < z) ∧ Digs ds zs
  | _, _ => False
theorem digs_snoc : ∀ {ds zs : List Int} {d z : Int}, Digs ds zs → 0 ≤ d → d < z → Digs (ds ++ [d]) (zs ++ [z])
  | [], [], _, _, _, h0, h1 => ⟨⟨h0, h1⟩, trivial⟩
  | _ :: _, _ :: _, _, _, h, h0, h1 => ⟨h.1, digs_snoc h.2 h0 h1⟩
theorem digs_len : ∀ {ds zs : List Int}, Digs ds zs → ds.length = zs.length
  | [], [], _ => rfl
  | _ :: ds, _ :: zs, h => by rw [List.length_cons, List.length_cons, digs_len h.2]
theorem digs1 {ds : List Int} {z : Int} (h : Digs ds [z]) : ∃ d, ds = [d] ∧ 0 ≤ d ∧ d < z := by
  match ds, h with
  | [d], h => exact ⟨d, rfl, h.1.1, h.1.2⟩
  | _ :: _ :: _, h => exact h.2.elim
theorem digs2 {ds : List Int} {z y : Int} (h : Digs ds [z, y]) : ∃ d e, ds = [d, e] ∧ (0 ≤ d ∧ d < z) ∧ (0 ≤ e ∧ e < y) := by
  match ds, h with
  | d :: es, h => obtain ⟨e, rfl, h1⟩ := digs1 h.2; exact ⟨d, e, rfl, h.1, h1⟩
theorem digs3 {ds : List Int} {z y x : Int} (h : Digs ds [z, y, x]) : ∃ d e f, ds = [d, e, f] ∧ (0 ≤ d ∧ d < z) ∧ (0 ≤ e ∧ e < y) ∧ (0 ≤ f ∧ f < x) := by
  match ds, h with
  | d :: es, h => obtain ⟨e, f, rfl, h1⟩ := digs2 h.2; exact ⟨d, e, f, rfl, h.1, h1⟩
theorem digs4 {ds : List Int} {z y x w : Int} (h : Digs ds [z, y, x, w]) : ∃ d e f g, ds = [d, e, f, g] ∧ (0 ≤ d ∧ d < z) ∧ (0 ≤ e ∧ e < y) ∧ (0 ≤ f ∧ f < x) ∧ (0 ≤ g ∧ g < w) := by
  match ds, h with
  | d :: es, h => obtain ⟨e, f, g, rfl, h1⟩ := digs3 h.2; exact ⟨d, e, f, g, rfl, h.1, h1⟩
theorem digs5 {ds : List Int} {z y x w v : Int} (h : Digs ds [z, y, x, w, v]) : ∃ d e f g k, ds = [d, e, f, g, k] ∧ (0 ≤ d ∧ d < z) ∧ (0 ≤ e ∧ e < y) ∧ (0 ≤ f ∧ f < x) ∧ (0 ≤ g ∧ g < w) ∧ (0 ≤ k ∧ k < v) := by
  match ds, h with
  | d :: es, h => obtain ⟨e, f, g, k, rfl, h1⟩ := digs4 h.2; exact ⟨d, e, f, g, k, rfl, h.1, h1⟩
theorem digs6 {ds : List Int} {z y x w v u : Int} (h : Digs ds [z, y, x, w, v, u]) : ∃ d e f g k l, ds = [d, e, f, g, k, l] ∧ (0 ≤ d ∧ d < z) ∧ (0 ≤ e ∧ e < y) ∧ (0 ≤ f ∧ f < x) ∧ (0 ≤ g ∧ g < w) ∧ (0 ≤ k ∧ k < v) ∧ (0 ≤ l ∧ l < u) := by
  match ds, h with
  | d :: es, h => obtain ⟨e, f, g, k, l, rfl, h1⟩ := digs5 h.2; exact ⟨d, e, f, g, k, l, rfl, h.1, h1⟩
theorem digs8 {ds : List Int} {z y x w v u t s : Int} (h : Digs ds [z, y, x, w, v, u, t, s]) : ∃ d e f g k l m n, ds = [d, e, f, g, k, l, m, n] ∧ (0 ≤ d ∧ d < z) ∧ (0 ≤ e ∧ e < y) ∧ (0 ≤ f ∧ f < x) ∧ (0 ≤ g ∧ g < w) ∧ (0 ≤ k ∧ k < v) ∧ (0 ≤ l ∧ l < u) ∧ (0 ≤ m ∧ m < t) ∧ (0 ≤ n ∧ n < s) := by
  match ds, h with
  | d :: e :: es, h => obtain ⟨f, g, k, l, m, n, rfl, h1⟩ := digs6 h.2.2; exact ⟨d, e, f, g, k, l, m, n, rfl, h.1, h.2.1, h1⟩
def sp_num (K : PySem.W.Frag) : Sp := fun vs H Q _ => ∃ (a : Addr) (ns : List Int) (k : Int), vs = [.ref a, .int k] ∧ SqL K H a (ns.map V.int) ∧ (0 ≤ k ∧ k ≤ 10000) ∧ ∀ n : Int, 0 ≤ n → Q (.int n) H
def sp_digits (K : PySem.W.Frag) : Sp := fun vs H Q _ => ∃ (a b : Addr) (ns zs : List Int) (k : Int), vs = [.ref a, .int k, .ref b] ∧ SqL K H a (ns.map V.int) ∧ (0 ≤ k ∧ k ≤ 10000) ∧ SqL K H b (zs.map V.int) ∧ zs.length ≤ 1000 ∧ (∀ z ∈ zs, 0 < z ∧ z < 1073741824) ∧
  ∀ (p : Addr) (H' : Hp) (ds : List Int), H p = none → Same H H' → H' p = some (.lst (ds.map V.int)) → Digs ds zs → Q (.ref p) H'
section
variable {P : Program} {w : World} {K : PySem.W.Frag} {mg : Str → Option Value} {base : Heap}
theorem ok__law_number (T : TX K mg) : FnOk P w K mg base CX0 1 T.a__law_number T.d__law_number ["script", "k"] (sp_num K) := by
  refine T.F__law_number.ok sc__law_number (fun vs H Q E h => ?_) (fun cdv A outer s H vs Q E hr h => ?_)
  · obtain ⟨a, ns, k, rfl, _⟩ := h
    rfl
  · obtain ⟨a, ns, k, rfl, hS, hk, q⟩ := h
    refine ⟨_, (pss_cons (ps_set (i := 2) sc__law_number.nd rfl (Or.inl rfl) (pv 1))
      (C8.pss_cut (ps_if (pt_cmpR op_lt (pv 1) (pe_callB call_len_seq (by rfl) T.n_len PySem.boot_len (pa_cons (pv 0) pa_nil)) (nomark _)) (pss_one (ps_set (i := 2) sc__law_number.nd rfl (Or.inl rfl) (pe_ix ix_list (pv 0) (pv 1) (fun _ _ => rfl)))) pss_nil)
      (pss_cons (ps_if (PW.pt (pw_or (pt_cmpR op_ge (pv 2) (pe_op op_pow pe_int pe_int) (nomark _)) (pw_or1 (pt_cmpR op_lt (pv 2) pe_int (nomark _))))) (pss_one (ps_ret (pe_callB call_abs (by rfl) T.n_abs (by decide +kernel) (pa_cons (pv 2) pa_nil)))) pss_nil)
      (pss_one (ps_ret (pe_op op_mod (pe_callTy call_int1 (by rfl) T.n_int (by decide +kernel) (pa_cons (pe_op op_mul (pe_op op_mod (pe_callTy call_int1 (by rfl) T.n_int (by decide +kernel) (pa_cons (pe_op op_mul (pe_op op_add (pe_op op_add (pv 2) (pe_op op_mul pe_int (pv 1))) pe_int) pe_int) pa_nil)) pe_int) pe_int) pa_nil)) pe_int)))))), ?_⟩
    refine ⟨_, rfl, fun σ' G => H = G ∧ ∃ c : Int, σ' = [some (.ref a), some (.int k), some (.int c)], ?_, ?_⟩
    · refine ⟨.int k, rfl, .ref a, rfl, a, _, rfl, .inl hS, _, _, rfl, rfl, _, rfl, ifd (fun hc => ?_) (fun hc => ?_)⟩
      · rw [List.length_map] at hc
        obtain ⟨m, rfl⟩ := Int.eq_ofNat_of_zero_le hk.1
        have hg : ns[m]? = some ns[m] := List.getElem?_eq_getElem (by omega)
        exact ⟨_, rfl, _, rfl, a, _, _, _, rfl, rfl, hS, at_map hg, rfl, _, rfl⟩
      · exact ⟨rfl, _, rfl⟩
    rintro σ' _ ⟨rfl, c, rfl⟩
    refine ⟨_, rfl, _, _, rfl, rfl, ⟨by decide, by decide, by decide⟩, _, _, rfl, rfl, _, rfl, ifd (fun hb => ?_) (fun hb => ?_)⟩
    · refine ⟨_, rfl, _, rfl, q _ ?_⟩
      split <;> omega
    · refine ⟨_, rfl, _, _, rfl, rfl, _, rfl, ifd (fun hb2 => ?_) (fun hb2 => ?_)⟩
      · refine ⟨_, rfl, _, rfl, q _ ?_⟩
        split <;> omega
      · refine ⟨_, rfl, _, rfl, _, _, rfl, rfl, .inl ⟨by decide, by decide⟩, _, _, rfl, rfl, _, _, rfl, rfl, _, _, rfl, rfl, .inr ⟨by decide, by decide⟩, .inl ⟨_, rfl, _, _, rfl, rfl, (by show (0 : Int) < _; decide), _, _, rfl, rfl, .inr ⟨by decide, by decide⟩, .inl ⟨_, rfl, _, _, rfl, rfl, (by show (0 : Int) < _; decide), q _ (Int.emod_nonneg _ (by decide))⟩⟩⟩
theorem ok__law_digits (T : TX K mg) : FnOk P w K mg base CX0 2 T.a__law_digits T.d__law_digits ["script", "k", "sizes"] (sp_digits K) := by
  refine T.F__law_digits.ok sc__law_digits (fun vs H Q E h => ?_) (fun cdv A outer s H vs Q E hr h => ?_)
  · obtain ⟨a, b, ns, zs, k, rfl, _⟩ := h
    rfl
  · obtain ⟨a, b, ns, zs, k, rfl, hS, hk, hB, hzl, hz, q⟩ := h
    refine ⟨_, (pss_cons (ps_set (i := 3) sc__law_digits.nd rfl (Or.inl rfl) (pe_call (ok__law_number T) (hr.mono (by decide)) (by rfl) T.g__law_number T.F__law_number.kp T.b__law_number .nil pass0 (pa_cons (pv 0) (pa_cons (pv 1) pa_nil))))
      (pss_cons (ps_set (i := 4) sc__law_digits.nd rfl (Or.inl rfl) (pe_lst pa_nil))
      (pss_cons (ps_for PassesOwn.never rfl (pi_list (pv 2)) (pg_name (i := 5) sc__law_digits.nd rfl (Or.inl rfl))
        (pss_cons (ps_expr (pe_bm PySem.F.plainAttrs_list PySem.F.slot_list_append PySem.F.type_list_append mt_append (pv 4) (pa_cons (pe_op op_mod (pe_callTy call_int1 (by rfl) T.n_int (by decide +kernel) (pa_cons (pv 3) pa_nil)) (pv 5)) pa_nil)))
        (pss_one (ps_set (i := 3) sc__law_digits.nd rfl (Or.inl rfl) (pe_op op_fdiv (pe_callTy call_int1 (by rfl) T.n_int (by decide +kernel) (pa_cons (pv 3) pa_nil)) (pv 5))))))
      (pss_one (ps_ret (pv 4)))))), ?_⟩
    refine ⟨_, rfl, _, rfl, a, ns, k, rfl, hS, hk, fun n hn => ?_⟩
    refine ⟨Nat.zero_le _, fun o ho => ?_⟩
    have s1 := same_upd (o := .lst []) ho
    refine ⟨_, rfl, b, rfl, ⟨_, s1.seq hB⟩, for_list (K := K) (a := b) (xs := zs.map V.int) (fun i σ H2 => ∃ (n : Int) (ds : List Int) (x5 : Option V), 0 ≤ n ∧ σ = [some (.ref a), some (.int k), some (.ref b), some (.int n), some (.ref o), x5] ∧ Same H H2 ∧ H2 o = some (.lst (ds.map V.int)) ∧ Digs ds (zs.take i))
      ⟨n, [], none, hn, rfl, s1, upd_same, trivial⟩ (fun i σ H2 _ ⟨_, _, _, _, _, h, _⟩ => h.seq hB) ?_ ?_⟩
    · rintro i x σ H2 hx ⟨n, ds, x5, hn, rfl, g1, g2, g3⟩
      obtain ⟨z, hzi, rfl⟩ := map_at hx
      have z0 := hz z (List.mem_of_getElem? hzi)
      have hl := digs_len g3
      rw [List.length_take] at hl
      refine ⟨_, rfl, .inl ⟨rfl, _, sql g2⟩, _, rfl, .inl ⟨_, rfl, _, rfl, _, _, rfl, rfl, z0.1, o, _, _, rfl, rfl, g2, szl (by rw [List.length_map]; omega), ?_⟩⟩
      refine ⟨_, rfl, .inl ⟨_, rfl, _, rfl, _, _, rfl, rfl, z0, ?_⟩⟩
      refine ⟨n / z, ds ++ [n % z], _, Int.ediv_nonneg hn (by omega), rfl, same_put g1 ho, ?_, ?_⟩
      · rw [upd_same, List.map_append]
        rfl
      · rw [take_more hzi]
        exact digs_snoc g3 (Int.emod_nonneg _ (by omega)) (Int.emod_lt_of_pos _ z0.1)
    · rintro σ H2 ⟨n, ds, x5, hn, rfl, g1, g2, g3⟩
      rw [List.length_map, List.take_length] at g3
      exact ⟨_, rfl, q o _ ds ho g1 g2 g3⟩
end
/-! texts of numbers, items of written lists -/
theorem slen_app (a b : Str) : (a ++ b).length = a.length + b.length := by
  show (a.cps ++ b.cps).size = a.cps.size + b.cps.size
  rw [Array.size_append]
theorem strN_len : ∀ n : Nat, n < 1101 → (Str.ofString (toString (n : Int))).length ≤ 8 := by decide +kernel
theorem strN_log : ∀ n : Nat, n < 1101 → ((n : Int).natAbs).log2 < 1920 := by decide +kernel
theorem strI {i : Int} (h : 0 ≤ i ∧ i ≤ 1100) : i.natAbs.log2 < 1920 ∧ (Str.ofString (toString i)).length ≤ 8 := by
  obtain ⟨n, rfl⟩ := Int.eq_ofNat_of_zero_le h.1
  exact ⟨strN_log n (by omega), strN_len n (by omega)⟩
theorem at_strs {zs : List Str} {i : Int} (h0 : 0 ≤ i) (h1 : i < zs.length) : ∃ z, z ∈ zs ∧ atI (zs.map V.str) i = some (.str z) := by
  obtain ⟨n, rfl⟩ := Int.eq_ofNat_of_zero_le h0
  have hn : n < zs.length := by omega
  exact ⟨zs[n], List.getElem_mem hn, at_map (List.getElem?_eq_getElem hn)⟩
theorem strX {a b : Str} (h : a.cps.toList = b.cps.toList) : a = b := by
  cases a; cases b
  simp only [Str.mk.injEq]
  exact Array.toList_inj.mp h
theorem ok_app (a b : Str) : PyData.strOk (a ++ b) = (PyData.strOk a && PyData.strOk b) := by
  show (a.cps ++ b.cps).all _ = _
  rw [Array.all_append]
  rfl
theorem ok_num : ∀ n : Nat, n < 111 → PyData.strOk (Str.ofString (toString (n : Int))) = true := by decide +kernel
theorem ok_numI {i : Int} (h : 0 ≤ i ∧ i ≤ 110) : PyData.strOk (Str.ofString (toString i)) = true := by
  obtain ⟨n, rfl⟩ := Int.eq_ofNat_of_zero_le h.1
  exact ok_num n (by omega)
theorem app_list (a b : Str) : (a ++ b).cps.toList = a.cps.toList ++ b.cps.toList := by
  show (a.cps ++ b.cps).toList = _
  rw [Array.toList_append]
/-! order of data: <, min, max, sorted -/
def rLtD (K : PySem.W.Frag) : R2 := fun x y H Q => ∃ d e, Dp K H x d ∧ Dp K H y e ∧ PySem.W.alike d e = true ∧ d ≠ .none ∧ d.depth ≤ 32 ∧ Q (.bl (PySem.W.dataLt d e)) H
theorem vals_gete : ∀ {xs : List V} {us : List Value} {i : Nat} {u : Value} {x : V}, Vals xs us → us[i]? = some u → xs[i]? = some x → RelV x u
  | _, _, _, _, _, .nil, h, _ => by simp at h
  | _, _, 0, _, _, .cons r _, h, g => by cases h; cases g; exact r
  | _, _, i + 1, _, _, .cons _ t, h, g => vals_gete (i := i) t (by simpa using h) (by simpa using g)
section
variable {X : Cx}
theorem op_ltD (hu : X.A.units + 64 < cLine) : OpR X (compareOp .Lt) (rLtD X.K) := by
  intro pins s σ H x y v u Q I rx ry h
  obtain ⟨d, e, hd, he, ha, hn, hdp, q⟩ := h
  obtain ⟨as, r1⟩ := Dp.reads I d x v hd rx
  obtain ⟨bs, r2⟩ := Dp.reads I e y u he ry
  exact PySem.W.lt_data r1 r2 ha hn (by omega) ⟨.bl _, H, I, rfl, q⟩
theorem dp_reads_one {pins : List (Addr × Obj)} {σ : L2.St} {H : Hp} {s : Shared} (I : Inv X pins σ H s) {xs : List V} {ds : List PyData} {us : List Value} (h : DpAll X.K H xs ds) (r : Vals xs us) {i : Nat} {u : Value} (hu : us[i]? = some u) :
    ∃ x d, xs[i]? = some x ∧ ds[i]? = some d ∧ RelV x u ∧ Dp X.K H x d ∧ ∃ as, Reads s.heap u d as := by
  have hl := r.length
  have hi := (List.getElem?_eq_some_iff.mp hu).1
  have hx : xs[i]? = some xs[i] := List.getElem?_eq_getElem (by omega)
  obtain ⟨d, hd, hdp⟩ := dpa_at h hx
  have ru : RelV xs[i] u := vals_gete r hu hx
  obtain ⟨as, hr⟩ := Dp.reads I d _ u hdp ru
  exact ⟨_, d, hx, hd, ru, hdp, as, hr⟩
/-- min of a list of data -/
def rMinD (K : PySem.W.Frag) : List V → Hp → VK → Prop := fun vs H Q => ∃ (a : Addr) (xs : List V) (x : PyData) (ds : List PyData), vs = [.ref a] ∧ SqL K H a xs ∧ DpAll K H xs (x :: ds) ∧ PySem.W.AlikeAll (x :: ds) ∧ PyData.depthAll (x :: ds) ≤ 32 ∧
  ∀ v, Dp K H v (PySem.W.minD x ds) → Q v H
theorem cr_minD (hc : X.calm = true) (hu : X.A.units + 64 < cLine) : CallR X (.builtin "min") (rMinD X.K) := by
  intro pins s σ H vs us Q I r h
  obtain ⟨a, xs, x, ds, rfl, hs, hx, ha, hdp, q⟩ := h
  obtain ⟨its, rv, hl, _⟩ := I.list hs
  rw [Vals.ref1 r]
  obtain ⟨as, hr⟩ := Dp.readsAll I _ _ _ hx rv
  refine PySem.W.min_list_data (I.ok.hd hc) hl.isList (by simpa using hr) ha (by omega) fun i v h' tk bs hv rv' hk => ?_
  obtain ⟨y, d, hy, hd, ry, hD, cs, rd⟩ := dp_reads_one I hx rv (u := v) (i := i) (by simpa using hv)
  have hm : PySem.W.minD x ds ∈ x :: ds := by
    have go : ∀ (l : List PyData) (z : PyData), l.foldl (fun a y => if PySem.W.dataLt y a then y else a) z ∈ z :: l := by
      intro l
      induction l with
      | nil => intro z; exact List.mem_cons_self
      | cons b l ih =>
        intro z
        rw [List.foldl_cons]
        have := ih (if PySem.W.dataLt b z then b else z)
        rcases List.mem_cons.mp this with e | e
        · rw [e]
          split
          · exact List.mem_cons_of_mem _ List.mem_cons_self
          · exact List.mem_cons_self
        · exact List.mem_cons_of_mem _ (List.mem_cons_of_mem _ e)
    exact go ds x
  have e : d = PySem.W.minD x ds := PySem.W.alike_unique d _ v cs bs (ha.1 d (List.mem_of_getElem? hd) _ hm) (PySem.W.reads_keeps hk rd) rv'
  rw [e] at hD
  exact ⟨y, H, I.kept hk, ry, q y hD⟩
/-- sorted of a list of data -/
def leD (d e : PyData) : Bool := !PySem.W.dataLt e d
def rSortedD (K : PySem.W.Frag) : List V → Hp → VK → Prop := fun vs H Q => ∃ (a : Addr) (xs : List V) (ds : List PyData), vs = [.ref a] ∧ SqL K H a xs ∧ DpAll K H xs ds ∧ PySem.W.AllAlike ds ∧ PySem.W.Sortable ds ∧ (∀ d ∈ ds, d.depth ≤ 32) ∧
  ∀ ys p, H p = none → DpAll K H ys (ds.mergeSort leD) → (∀ y ∈ ys, y ∈ xs) → Q (.ref p) (upd H p (.lst ys))
theorem each_zip {R : Value → V × PyData → Prop} : ∀ {us : List Value} {bs : List (V × PyData)}, PySem.W.EachIs R us bs → (∀ u b, R u b → RelV b.1 u) → Vals (bs.map (·.1)) us
  | _, _, .nil, _ => .nil
  | _, _, .cons h t, k => .cons (k _ _ h) (each_zip t k)
theorem zip_dpa {K : PySem.W.Frag} {H : Hp} : ∀ {bs : List (V × PyData)}, (∀ b ∈ bs, Dp K H b.1 b.2) → DpAll K H (bs.map (·.1)) (bs.map (·.2))
  | [], _ => .nil
  | b :: bs, h => .cons (h b List.mem_cons_self) (zip_dpa fun c hc => h c (List.mem_cons_of_mem _ hc))
theorem dpa_zip {K : PySem.W.Frag} {H : Hp} : ∀ {xs : List V} {ds : List PyData}, DpAll K H xs ds → ∀ b ∈ xs.zip ds, Dp K H b.1 b.2
  | _, _, .nil, _, h => by cases h
  | _, _, .cons h t, b, hb => by
    rcases List.mem_cons.mp hb with e | e
    · rw [e]; exact h
    · exact dpa_zip t b e
theorem each_of {pins : List (Addr × Obj)} {σ : L2.St} {H : Hp} {s : Shared} (I : Inv X pins σ H s) : ∀ {xs : List V} {ds : List PyData} {us : List Value}, DpAll X.K H xs ds → Vals xs us →
    PySem.W.EachIs (fun u b => RelV b.1 u) us (xs.zip ds) ∧ PySem.W.EachIs (fun v (b : V × PyData) => ∃ as, Reads s.heap v b.2 as) us (xs.zip ds)
  | _, _, _, .nil, .nil => ⟨.nil, .nil⟩
  | _, _, _, .cons h t, .cons r rs => by
    obtain ⟨h1, h2⟩ := each_of I t rs
    exact ⟨.cons r h1, .cons (Dp.reads I _ _ _ h r) h2⟩
theorem cr_sortedD (hu : X.A.units + 64 < cLine) : CallR X (.builtin "sorted") (rSortedD X.K) := by
  intro pins s σ H vs us Q I r h
  obtain ⟨a, xs, ds, rfl, hs, hx, hal, hso, hdp, q⟩ := h
  obtain ⟨its, rv, hl, hz⟩ := I.list hs
  rw [Vals.ref1 r]
  obtain ⟨e1, e2⟩ := each_of I hx rv
  have hlen : xs.length = ds.length := dpa_len hx
  have hsnd : (xs.zip ds).map (·.2) = ds := List.map_snd_zip (by omega)
  have hfst : (xs.zip ds).map (·.1) = xs := List.map_fst_zip (by omega)
  refine PySem.W.sorted_data (bs := xs.zip ds) (enc := (·.2)) hl.isList e1 e2 (by rw [hsnd]; exact hal) (by rw [hsnd]; exact hso) (by rw [List.length_zip]; omega) (fun b hb => ?_) fun out ho he => ?_
  · have := hdp b.2 (by rw [← hsnd]; exact List.mem_map_of_mem hb)
    omega
  · have hmem : ∀ b ∈ (xs.zip ds).mergeSort (PySem.W.dataLe false (·.2)), b ∈ xs.zip ds := fun b hb => (List.mergeSort_perm _ _).mem_iff.mp hb
    have hv : Vals (((xs.zip ds).mergeSort (PySem.W.dataLe false (·.2))).map (·.1)) out := each_zip he fun _ _ h => h
    have hD := zip_dpa fun b hb => dpa_zip hx b (hmem b hb)
    have hsm : ((xs.zip ds).mergeSort (PySem.W.dataLe false (·.2))).map (·.2) = ds.mergeSort leD := by
      have hm := PySem.W.sort_maps (f := fun b : V × PyData => b.2) (l := xs.zip ds) (r := PySem.W.dataLe false (fun b : V × PyData => b.2)) (s := leD) (fun a _ b _ => rfl)
      rw [hsnd] at hm
      exact hm
    rw [hsm] at hD
    obtain ⟨ep, hat⟩ := PyProof.Rows.sortedAll_at s.heap its (List.toArray out)
    have hn : H (s.heap.objs.size + 1) = none := I.hok.fresh (Nat.le_succ _)
    refine ⟨.ref _, upd H (s.heap.objs.size + 1) (.lst (((xs.zip ds).mergeSort (PySem.W.dataLe false (·.2))).map (·.1))), I.laid (t' := s.toks) (fun _ _ => PyProof.Rows.sortedAll_old) (Nat.le_succ _) ⟨?_, out, ep, hv, hat⟩, rfl, q _ _ hn hD fun y hy => ?_⟩
    · rw [List.length_map, List.length_mergeSort, List.length_zip]
      omega
    · obtain ⟨b, hb, rfl⟩ := List.mem_map.mp hy
      exact (List.of_mem_zip (hmem b hb)).1
end
/-- what sorting gives: the same, in order -/
theorem sortD_perm (ds : List PyData) : (ds.mergeSort leD).Perm ds := List.mergeSort_perm _ _
def pr (r : Int × Str) : PyData := .tuple [.int r.1, .str r.2]
theorem lt_pr (a b : Int × Str) : PySem.W.dataLt (pr a) (pr b) = if a.1 = b.1 then decide (a.2.cps.toList < b.2.cps.toList) else decide (a.1 < b.1) := by
  unfold pr
  rw [PySem.W.dataLt_pair rfl rfl, PySem.W.dataLt_int, PySem.W.dataLt_str]
  have e1 : PyData.eqv (.int a.1) (.int b.1) = decide (a.1 = b.1) := by
    show (a.1 == b.1) = _
    rw [Bool.eq_iff_iff]; simp
  have e2 : PyData.eqv (.str a.2) (.str b.2) = decide (a.2 = b.2) := by
    show (a.2 == b.2) = _
    rw [Bool.eq_iff_iff]; simp
  rw [e1, e2]
  by_cases h : a.1 = b.1
  · rw [if_pos (decide_eq_true h), if_pos h]
    by_cases g : a.2 = b.2
    · rw [if_pos (decide_eq_true g), g]
      exact (decide_eq_false (List.lt_irrefl _)).symm
    · rw [if_neg (by simp [g])]
  · rw [if_neg (by simp [h]), if_neg h]
def le8 (a b : Int × Str) : Bool := leD (pr a) (pr b)
theorem le8_lt {a b : Int × Str} (h : le8 a b = true) (hn : a ≠ b) : PySem.W.dataLt (pr a) (pr b) = true := by
  unfold le8 leD at h
  rw [lt_pr] at h
  rw [lt_pr]
  by_cases e : a.1 = b.1
  · rw [if_pos e.symm] at h
    rw [if_pos e]
    simp only [Bool.not_eq_true', decide_eq_false_iff_not] at h
    rw [decide_eq_true_iff]
    by_cases g : a.2.cps.toList < b.2.cps.toList
    · exact g
    · have e2 := List.le_antisymm (List.not_lt.mp h) (List.not_lt.mp g)
      exact absurd (Prod.ext e (strX e2)) hn
  · rw [if_neg (fun z => e z.symm)] at h
    rw [if_neg e]
    simp only [Bool.not_eq_true', decide_eq_false_iff_not] at h
    rw [decide_eq_true_iff]
    omega
inductive E8 where
  | node (n : Str) (b : Int)
  | serv (n : Str) (b : Int)
  | task (n : Str) (b r vb vl : Int) (st : Str) (sp : Int)
def E8.d : E8 → PyData
  | .node n b => .tuple [.str "node", .str n, .int b, .int b, .tuple [.int 9, .int 0, .int 1, .int 0, .str ""]]
  | .serv n b => .tuple [.str "service", .str n, .int b, .int b, .tuple [.int 1, .str "new", .int 0, .int 1, .str ""]]
  | .task n b r vb vl st sp => .tuple [.str "task", .str n, .int b, .int r, .tuple [.int vb, .str "run", .int vl, .str st, .int sp, .str "w1", .int 2, .str ""]]
def tl8 (k : Nat) : List Nat := (Str.ofString (toString ((k / 10 : Nat) : Int))).cps.toList ++ [47] ++ (Str.ofString (toString ((k % 10 : Nat) : Int))).cps.toList
theorem tl8_inj : ∀ i : Nat, i < 42 → ∀ j : Nat, j < 42 → tl8 i = tl8 j → i = j := by decide +kernel
def letters8 : List Nat := (Str.ofString "abcdefghijklmnopqrstuvwxyz").cps.toList
def ok8 (k : Nat) : E8 → Prop
  | .node n _ => PyData.strOk n = true
  | .serv n _ => PyData.strOk n = true
  | .task n b _ _ _ st _ => PyData.strOk n = true ∧ PyData.strOk st = true ∧ 1 ≤ b ∧ ∃ c, n.cps.toList = c :: tl8 k
def pend (st : Str) (sp : Int) : Bool := decide (V.str st = V.str "new") && decide (V.int sp = V.int 0)
def rowOf : E8 → Option (Int × Str)
  | .task n b _ _ _ st sp => if pend st sp = true then some (b, n) else none
  | _ => none
def rows8 (es : List E8) : List (Int × Str) := es.filterMap rowOf
def srt8 (es : List E8) : List (Int × Str) := (rows8 es).mergeSort le8
def sp_pend (K : PySem.W.Frag) : Sp := fun vs H Q _ => ∃ (v : V) (ds : List PyData) (st : Str) (sp : Int), vs = [v] ∧ Dp K H v (.tuple ds) ∧ ds[3]? = some (.str st) ∧ ds[4]? = some (.int sp) ∧ ∀ b, b = pend st sp → Q (.bl b) H
def sp_pending (K : PySem.W.Frag) : Sp := fun vs H Q _ => ∃ (a : Addr) (xs : List V) (es : List E8), vs = [.ref a] ∧ SqL K H a xs ∧ DpAll K H xs (es.map E8.d) ∧ es.length ≤ 1000 ∧ ∀ p H', H p = none → Same H H' → H' p = some (.lst ((srt8 es).map fun r => V.str r.2)) → Q (.ref p) H'
def sp_entry (K : PySem.W.Frag) : Sp := fun vs H Q _ => ∃ (a : Addr) (ns : List Int) (k : Nat), vs = [.ref a, .int (k : Int)] ∧ SqL K H a (ns.map V.int) ∧ k < 42 ∧ ∀ p e H', H p = none → Same H H' → ok8 k e → (∀ G, (∀ b o, H b = none → H' b = some o → G b = some o) → Dp K G (.ref p) e.d) → Q (.ref p) H'
def sp_law (K : PySem.W.Frag) : Sp := fun vs H Q _ => ∃ (a : Addr) (ns : List Int), vs = [.ref a] ∧ SqL K H a (ns.map V.int) ∧ ns.length ≤ 63 ∧ ∀ H', Q (.bl true) H'
theorem dpa_strs {K : PySem.W.Frag} {H : Hp} : ∀ {rs : List (Int × Str)} {ys : List V}, DpAll K H ys (rs.map fun r => PyData.str r.2) → ys = rs.map fun r => V.str r.2
  | [], _, h => dpa_nil h
  | r :: rs, _, h => by
    obtain ⟨ws, rfl, h2⟩ := dpa_str h
    rw [dpa_strs h2]
    rfl
theorem pr_alike (rs : List (Int × Str)) : PySem.W.AllAlike (rs.map pr) := PySem.W.AllAlike.of fun _ _ => rfl
theorem pr_sortable (rs : List (Int × Str)) : PySem.W.Sortable (rs.map pr) := PySem.W.Sortable.tuples fun _ => ⟨_, _, rfl⟩
theorem pr_depth (rs : List (Int × Str)) : ∀ d ∈ rs.map pr, d.depth ≤ 32 := fun d hd => by
  obtain ⟨r, _, rfl⟩ := List.mem_map.mp hd
  simp [pr, PyData.depth, PyData.depthAll]
theorem pr_sort (rs : List (Int × Str)) : (rs.map pr).mergeSort leD = (rs.mergeSort le8).map pr := (PySem.W.sort_maps pr fun _ _ _ _ => rfl).symm
section
variable {P : Program} {w : World} {K : PySem.W.Frag} {mg : Str → Option Value} {base : Heap}
theorem ok__is_pending (T : TX K mg) : FnOk P w K mg base CX0 1 T.a__is_pending T.d__is_pending ["value"] (sp_pend K) := by
  refine T.F__is_pending.ok sc__is_pending (fun vs H Q E h => ?_) (fun cdv A outer s H vs Q E hr h => ?_)
  · obtain ⟨v, ds, st, sp, rfl, _⟩ := h
    rfl
  · obtain ⟨v, ds, st, sp, rfl, hv, h3, h4, q⟩ := h
    refine ⟨_, (pss_one (ps_ret (pe_and (pe_cmpR op_eq (pe_ix ix_tup (pv 0) (pe_glob (v := .int 3) (by rfl) T.c_STATE ⟨_, rfl⟩) (fun _ _ => rfl)) pe_str (nomark _)) (pe_one (pe_cmpR op_eq (pe_ix ix_tup (pv 0) (pe_glob (v := .int 4) (by rfl) T.c_STOP ⟨_, rfl⟩) (fun _ _ => rfl)) pe_int (nomark _)))))), ?_⟩
    obtain ⟨p, xs, rfl, ht, ha⟩ := dp_tup hv
    have hl := dpa_len ha
    have h3l := (List.getElem?_eq_some_iff.mp h3).1
    have h4l := (List.getElem?_eq_some_iff.mp h4).1
    have hx : xs[3]? = some xs[3] := List.getElem?_eq_getElem (by omega)
    have hy : xs[4]? = some xs[4] := List.getElem?_eq_getElem (by omega)
    obtain ⟨d, hd, hdp⟩ := dpa_at ha hx
    rw [h3] at hd
    cases hd
    rw [dp_str hdp] at hx
    obtain ⟨d, hd, hdp⟩ := dpa_at ha hy
    rw [h4] at hd
    cases hd
    rw [dp_int hdp] at hy
    refine ⟨_, rfl, p, xs, 3, _, rfl, rfl, ht, atI_nat (j := 3) hx, rfl, _, rfl, ifd (fun h1 => ?_) (fun h1 => ?_)⟩
    · exact ⟨_, rfl, p, xs, 4, _, rfl, rfl, ht, atI_nat (j := 4) hy, rfl, q _ (by simp [pend, h1])⟩
    · exact q _ (by simp [pend, h1])
theorem ok_pending_tasks (T : TX K mg) : FnOk P w K mg base CX0 2 T.a_pending_tasks T.d_pending_tasks ["entries"] (sp_pending K) := by
  refine T.F_pending_tasks.ok sc_pending_tasks (fun vs H Q E h => ?_) (fun cdv A outer s H vs Q E hr h => ?_)
  · obtain ⟨a, xs, es, rfl, _⟩ := h
    rfl
  · obtain ⟨a, xs, es, rfl, hL, hx, hl, q⟩ := h
    refine ⟨_, (pss_cons (ps_setLc (i := 1) (own := [("kind", 2), ("name", 3), ("born", 4), ("_", 5), ("value", 6)])   (by rfl) sc_pending_tasks.nd rfl rfl (sw_true rfl rfl rfl (by decide +kernel)) (pi_list (pv 0)) (blkOk_by (own := [("kind", 2), ("name", 3), ("born", 4), ("_", 5), ("value", 6)]) (N := ["entries", "tasks", "kind", "name", "born", "_", "value"]) (sc := defScope s_pending_tasks) (by decide +kernel)) (fun _ _ _ _ _ => (pgK_tup (K := K) (n := 5) rfl rfl (pgs_cons (pg_name (i := 2) sc_pending_tasks.nd rfl (Or.inl rfl)) (pgs_cons (pg_name (i := 3) sc_pending_tasks.nd rfl (Or.inl rfl)) (pgs_cons (pg_name (i := 4) sc_pending_tasks.nd rfl (Or.inl rfl)) (pgs_cons (pg_name (i := 5) sc_pending_tasks.nd rfl (Or.inl rfl)) (pgs_cons (pg_name (i := 6) sc_pending_tasks.nd rfl (Or.inl rfl)) pgs_nil))))))) (fun _ _ _ _ _ => pts_one (PW.pt (pw_and (pt_cmpR op_eq (pv 2) pe_str (nomark _)) (pw_and1 (pt_val (pe_call (ok__is_pending T) (hr.mono (by decide)) (by rfl) T.g__is_pending T.F__is_pending.kp T.b__is_pending .nil pass0 (pa_cons (pv 6) pa_nil))))))) (fun _ _ _ _ _ => (pe_tup (pa_cons (pv 4) (pa_cons (pv 3) pa_nil)))))
      (pss_one (ps_ret (pe_lc (own := [("_", 5), ("name", 3)])  (tt := tYes) (by rfl) sc_pending_tasks.nd (pi_list (pe_callB (cr_sortedD hr.units) (by rfl) T.n_sorted (by decide +kernel) (pa_cons (pv 1) pa_nil))) (blkOk_by (own := [("_", 5), ("name", 3)]) (N := ["entries", "tasks", "kind", "name", "born", "_", "value"]) (sc := defScope s_pending_tasks) (by decide +kernel)) (fun _ _ _ _ _ => (pgK_tup (K := K) (n := 2) rfl rfl (pgs_cons (pg_name (i := 5) sc_pending_tasks.nd rfl (Or.inl rfl)) (pgs_cons (pg_name (i := 3) sc_pending_tasks.nd rfl (Or.inl rfl)) pgs_nil)))) (fun _ _ _ _ _ => pts_nil) (fun _ _ _ _ _ => (pv 3)))))), ?_⟩
    refine nrm7 rfl ?_
    refine ⟨_, rfl, a, rfl, ⟨_, hL⟩, fun D hD => ?_⟩
    refine lcd (K := K) es E8.d (fun e => (rowOf e).map pr) hD hL hx (by omega) ?_ ?_
    · intro x e G he s1 ⟨l, hGD⟩ hdp J j1 j2
      cases e with
      | node n b =>
        obtain ⟨p, v0, v1, v2, v3, v, rfl, ht, ⟨⟩, ⟨⟩, ⟨⟩, ⟨⟩, hv⟩ := dp_t5 hdp
        have ht := sqt_same s1 ht
        exact ⟨p, _, rfl, ht, rfl, _, _, rfl, _, _, rfl, _, _, rfl, _, _, rfl, _, _, rfl, rfl, rfl, _, rfl, rfl, _, rfl, iff0 (by decide +kernel) (ifbf rfl (j1 _ (Same.refl _) rfl))⟩
      | serv n b =>
        obtain ⟨p, v0, v1, v2, v3, v, rfl, ht, ⟨⟩, ⟨⟩, ⟨⟩, ⟨⟩, hv⟩ := dp_t5 hdp
        have ht := sqt_same s1 ht
        exact ⟨p, _, rfl, ht, rfl, _, _, rfl, _, _, rfl, _, _, rfl, _, _, rfl, _, _, rfl, rfl, rfl, _, rfl, rfl, _, rfl, iff0 (by decide +kernel) (ifbf rfl (j1 _ (Same.refl _) rfl))⟩
      | task n b r vb vl st sp =>
        obtain ⟨p, v0, v1, v2, v3, v, rfl, ht, ⟨⟩, ⟨⟩, ⟨⟩, ⟨⟩, hv⟩ := dp_t5 hdp
        have ht := sqt_same s1 ht
        refine ⟨p, _, rfl, ht, rfl, _, _, rfl, _, _, rfl, _, _, rfl, _, _, rfl, _, _, rfl, rfl, rfl, _, rfl, rfl, _, rfl, ift rfl ?_⟩
        refine ⟨_, rfl, v, _, st, sp, rfl, dp_same s1 _ hv, rfl, rfl, fun c hc => ⟨_, rfl, ifb2 (fun hp => ?_) (fun hp => ?_)⟩⟩
        · refine ⟨_, rfl, _, rfl, (by show 2 ≤ sizeLine; decide), fun t hn => ?_⟩
          refine j2 (.ref t) (pr (b, n)) _ (same_upd hn) (fun G'' s3 o => ?_) (by simp [rowOf, ← hc, hp])
          have ntD : t ≠ D := fun z => by rw [z, hGD] at hn; cases hn
          exact .tup (sqt (o _ _ ntD upd_same)) (.cons (.int _) (.cons (.str _) .nil))
        · exact j1 _ (Same.refl _) (by simp [rowOf, ← hc, hp])
    · intro H' ys s1 e1 h1
      have hm : es.filterMap (fun e => (rowOf e).map pr) = (rows8 es).map pr := by unfold rows8; rw [List.map_filterMap]
      rw [hm] at h1
      refine gnm7 rfl ?_
      refine ⟨_, rfl, D, ys, _, rfl, sql e1, h1, pr_alike _, pr_sortable _, pr_depth _, fun zs p hp hz _ => ?_⟩
      rw [pr_sort] at hz
      have hrl : (rows8 es).length ≤ es.length := List.length_filterMap_le _ _
      have s2 := same_upd (o := .lst zs) hp
      refine ⟨p, rfl, ⟨_, sql upd_same⟩, fun D2 hD2 => ?_⟩
      refine lcd (K := K) (srt8 es) pr (fun e => some (.str e.2)) hD2 (sql upd_same) (dpa_same s2 _ hz) (by unfold srt8; rw [List.length_mergeSort]; omega) ?_ ?_
      · intro x e G he s3 _ hdp J j1 j2
        obtain ⟨p2, v0, v1, rfl, ht, ⟨⟩, ⟨⟩⟩ := dp_t2 hdp
        have ht := sqt_same s3 ht
        refine ⟨p2, _, rfl, ht, rfl, _, _, rfl, _, _, rfl, rfl, rfl, ?_⟩
        dsimp only [tYes]
        refine (if_pos rfl).mpr ?_
        exact ⟨_, rfl, j2 _ _ G (Same.refl _) (fun _ _ _ => .str _) rfl⟩
      · intro H2 ws s3 e3 h3
        have h4 : (srt8 es).filterMap (fun e => some (PyData.str e.2)) = (srt8 es).map fun r => PyData.str r.2 := by rw [← List.filterMap_eq_map]; rfl
        rw [h4] at h3
        have := dpa_strs h3
        rw [this] at e3
        exact q D2 H2 ((s1.trans s2).free hD2) ((s1.trans s2).trans s3) e3
end
section
variable {P : Program} {w : World} {K : PySem.W.Frag} {mg : Str → Option Value} {base : Heap}
theorem st_ok : ∀ z ∈ ([Str.ofString "new", Str.ofString "new", Str.ofString "bound", Str.ofString "running", Str.ofString "ended"] : List Str), PyData.strOk z = true := by decide +kernel
theorem let_ok : ∀ c ∈ letters8, PyData.strOk (⟨#[c]⟩ : Str) = true := by decide +kernel
theorem ok__law_entry (T : TX K mg) : FnOk P w K mg base CX0 3 T.a__law_entry T.d__law_entry ["script", "k"] (sp_entry K) := by
  refine T.F__law_entry.ok sc__law_entry (fun vs H Q E h => ?_) (fun cdv A outer s H vs Q E hr h => ?_)
  · obtain ⟨a, ns, k, rfl, _⟩ := h
    rfl
  · obtain ⟨a, ns, k, rfl, hS, hk, q⟩ := h
    refine ⟨_, (pss_cons (ps_set (i := 2) sc__law_entry.nd rfl (Or.inl rfl) (pe_lst (pa_cons pe_str (pa_cons pe_str (pa_cons pe_str (pa_cons pe_str (pa_cons pe_str pa_nil)))))))
      (pss_cons (ps_set (i := 3) sc__law_entry.nd rfl (Or.inl rfl) pe_str)
      (pss_cons (ps_asg (pe_call (ok__law_digits T) (hr.mono (by decide)) (by rfl) T.g__law_digits T.F__law_digits.kp T.b__law_digits .nil pass0 (pa_cons (pv 0) (pa_cons (pv 1) (pa_cons (pe_lst (pa_cons pe_int (pa_cons pe_int (pa_cons pe_int (pa_cons pe_int (pa_cons pe_int (pa_cons pe_int pa_nil))))))) pa_nil)))) (pg_unl rfl (pgs_cons (pg_name (i := 4) sc__law_entry.nd rfl (Or.inl rfl)) (pgs_cons (pg_name (i := 5) sc__law_entry.nd rfl (Or.inl rfl)) (pgs_cons (pg_name (i := 6) sc__law_entry.nd rfl (Or.inl rfl)) (pgs_cons (pg_name (i := 7) sc__law_entry.nd rfl (Or.inl rfl)) (pgs_cons (pg_name (i := 8) sc__law_entry.nd rfl (Or.inl rfl)) (pgs_cons (pg_name (i := 9) sc__law_entry.nd rfl (Or.inl rfl)) pgs_nil))))))))
      (pss_cons (ps_set (i := 10) sc__law_entry.nd rfl (Or.inl rfl) (pe_op op_add pe_int (pv 4)))
      (C8.pss_cut (ps_if (pt_cmpR op_eq (pv 9) pe_int (nomark _)) (pss_one (ps_set (i := 10) sc__law_entry.nd rfl (Or.inl rfl) (pe_op op_add pe_int (pe_op op_mul (pv 4) pe_int)))) pss_nil)
      (pss_cons (ps_if (pt_cmpR op_eq (pv 8) pe_int (nomark _)) (pss_one (ps_ret (pe_tup (pa_cons pe_str (pa_cons (pe_op op_add_str pe_str (pe_callTy call_str_int (by rfl) T.n_str (by decide +kernel) (pa_cons (pv 1) pa_nil))) (pa_cons (pv 10) (pa_cons (pv 10) (pa_cons (pe_tup (pa_cons pe_int (pa_cons pe_int (pa_cons pe_int (pa_cons pe_int (pa_cons pe_str pa_nil)))))) pa_nil)))))))) pss_nil)
      (pss_cons (ps_if (pt_cmpR op_eq (pv 8) pe_int (nomark _)) (pss_one (ps_ret (pe_tup (pa_cons pe_str (pa_cons (pe_op op_add_str pe_str (pe_callTy call_str_int (by rfl) T.n_str (by decide +kernel) (pa_cons (pv 1) pa_nil))) (pa_cons (pv 10) (pa_cons (pv 10) (pa_cons (pe_tup (pa_cons pe_int (pa_cons pe_str (pa_cons pe_int (pa_cons pe_int (pa_cons pe_str pa_nil)))))) pa_nil)))))))) pss_nil)
      (pss_cons (ps_set (i := 11) sc__law_entry.nd rfl (Or.inl rfl) (pe_op op_add_str (pe_op op_add_str (pe_op op_add_str (pe_ix ix_str (pv 3) (pv 5) (fun _ _ => rfl)) (pe_callTy call_str_int (by rfl) T.n_str (by decide +kernel) (pa_cons (pe_op op_fdiv (pv 1) pe_int) pa_nil))) pe_str) (pe_callTy call_str_int (by rfl) T.n_str (by decide +kernel) (pa_cons (pe_op op_mod (pe_callTy call_int1 (by rfl) T.n_int (by decide +kernel) (pa_cons (pv 1) pa_nil)) pe_int) pa_nil))))
      (pss_cons (ps_set (i := 12) sc__law_entry.nd rfl (Or.inl rfl) (pe_tup (pa_cons (pe_op op_add pe_int (pv 4)) (pa_cons pe_str (pa_cons (pv 5) (pa_cons (pe_ix ix_list (pv 2) (pv 6) (fun _ _ => rfl)) (pa_cons (pe_op op_fdiv (pv 7) pe_int) (pa_cons pe_str (pa_cons pe_int (pa_cons pe_str pa_nil))))))))))
      (pss_one (ps_ret (pe_tup (pa_cons pe_str (pa_cons (pv 11) (pa_cons (pv 10) (pa_cons (pe_op op_add (pv 10) (pv 4)) (pa_cons (pv 12) pa_nil))))))))))))))))), ?_⟩
    refine nrm13 rfl ?_
    refine ⟨(by show 5 ≤ sizeLine; decide), fun p1 h1 => ?_⟩
    have s1 := same_upd (o := .lst [.str "new", .str "new", .str "bound", .str "running", .str "ended"]) h1
    have e1 := upd_same (H := H) (a := p1) (o := .lst [.str "new", .str "new", .str "bound", .str "running", .str "ended"])
    generalize upd H p1 (.lst [.str "new", .str "new", .str "bound", .str "running", .str "ended"]) = H2 at e1 s1
    refine gnm13 rfl ?_
    refine ⟨_, rfl, _, rfl, (by show 6 ≤ sizeLine; decide), fun z hz => ?_⟩
    have s3 := same_upd (o := .lst [.int 12, .int 26, .int 5, .int 5, .int 6, .int 5]) hz
    refine ⟨a, z, ns, [12, 26, 5, 5, 6, 5], _, rfl, (s1.trans s3).seq hS, ⟨by omega, by omega⟩, sql upd_same, by decide, (by simp), fun p H3 ds hp s4 e4 hd => ?_⟩
    obtain ⟨low, letter, state, stop, kind, large, rfl, b1, b2, b3, b4, b5, b6⟩ := digs6 hd
    have s5 := s1.trans (s3.trans s4)
    have e1 := s4 _ _ (s3 _ _ e1)
    clear s1 s3 s4 hz hp h1
    refine ⟨p, _, rfl, sql e4, rfl, _, _, rfl, _, _, rfl, _, _, rfl, _, _, rfl, _, _, rfl, _, _, rfl, rfl, ?_⟩
    refine nrm13 rfl ?_
    refine ⟨_, rfl, _, _, rfl, rfl, ?_⟩
    refine ⟨fun σ' G => H3 = G ∧ ∃ b : Int, 1 ≤ b ∧ σ' = [some (.ref a), some (.int (k : Int)), some (.ref p1), some (.str "abcdefghijklmnopqrstuvwxyz"), some (.int low), some (.int letter), some (.int state), some (.int stop), some (.int kind), some (.int large), some (.int b), none, none], ?_, ?_⟩
    · refine ⟨_, rfl, rfl, _, rfl, ifd (fun hc => ?_) (fun hc => ?_)⟩
      · exact ⟨_, rfl, _, _, rfl, rfl, .inr ⟨by decide, by decide⟩, _, _, rfl, rfl, rfl, _, by omega, rfl⟩
      · exact ⟨rfl, _, by omega, rfl⟩
    rintro σ' _ ⟨rfl, b, hb, rfl⟩
    have hs := strI (i := (k : Int)) (by omega)
    have hs1 := strI (i := (k : Int) / 10) (by omega)
    have hs2 := strI (i := (k : Int) % 10) (by omega)
    have wl : ∀ c : Str, c.length = 1 → (c ++ Str.ofString (toString (k : Int))).length ≤ sizeLine := fun c hc => sz (by rw [slen_app]; have := hs.2; omega)
    refine ⟨_, rfl, rfl, _, rfl, ifd (fun hc => ?_) (fun hc => ?_)⟩
    · refine ⟨_, rfl, _, rfl, hs.1, _, _, rfl, rfl, sz (by have := hs.2; show 1 + _ ≤ 100000; omega), _, rfl, _, rfl, (by show 5 ≤ sizeLine; decide), fun p5 h5 => ⟨(by show 5 ≤ sizeLine; decide), fun p6 h6 => ?_⟩⟩
      have n56 : p5 ≠ p6 := fun z => by rw [z, upd_same] at h6; cases h6
      refine q p6 (.node (Str.ofString "w" ++ Str.ofString (toString (k : Int))) b) _ ((s5.trans (same_upd h5)).free h6) ((s5.trans (same_upd h5)).trans (same_upd h6)) ?_ fun G g => ?_
      · show PyData.strOk _ = true
        rw [ok_app, ok_numI (by omega)]
        decide +kernel
      · have g5 := g p5 _ (s5.free h5) (by rw [upd_ne n56, upd_same])
        have g6 := g p6 _ ((s5.trans (same_upd h5)).free h6) upd_same
        exact .tup (sqt g6) (.cons (.str _) (.cons (.str _) (.cons (.int _) (.cons (.int _) (.cons (.tup (sqt g5) (.cons (.int _) (.cons (.int _) (.cons (.int _) (.cons (.int _) (.cons (.str _) .nil)))))) .nil)))))
    refine ⟨_, rfl, rfl, _, rfl, ifd (fun hc => ?_) (fun hc => ?_)⟩
    · refine ⟨_, rfl, _, rfl, hs.1, _, _, rfl, rfl, sz (by have := hs.2; show 1 + _ ≤ 100000; omega), _, rfl, _, rfl, (by show 5 ≤ sizeLine; decide), fun p5 h5 => ⟨(by show 5 ≤ sizeLine; decide), fun p6 h6 => ?_⟩⟩
      have n56 : p5 ≠ p6 := fun z => by rw [z, upd_same] at h6; cases h6
      refine q p6 (.serv (Str.ofString "s" ++ Str.ofString (toString (k : Int))) b) _ ((s5.trans (same_upd h5)).free h6) ((s5.trans (same_upd h5)).trans (same_upd h6)) ?_ fun G g => ?_
      · show PyData.strOk _ = true
        rw [ok_app, ok_numI (by omega)]
        decide +kernel
      · have g5 := g p5 _ (s5.free h5) (by rw [upd_ne n56, upd_same])
        have g6 := g p6 _ ((s5.trans (same_upd h5)).free h6) upd_same
        exact .tup (sqt g6) (.cons (.str _) (.cons (.str _) (.cons (.int _) (.cons (.int _) (.cons (.tup (sqt g5) (.cons (.int _) (.cons (.str _) (.cons (.int _) (.cons (.int _) (.cons (.str _) .nil)))))) .nil)))))
    obtain ⟨li, rfl⟩ := Int.eq_ofNat_of_zero_le b2.1
    have hli : li < letters8.length := by show li < 26; omega
    have hlc : letters8[li]? = some letters8[li] := List.getElem?_eq_getElem hli
    have hcm : letters8[li] ∈ letters8 := List.getElem_mem hli
    generalize letters8[li] = c at hlc hcm
    refine ⟨_, rfl, _, rfl, _, _, c, rfl, rfl, (by show 26 ≤ sizeLine; decide), atI_nat hlc, _, rfl, _, _, rfl, rfl, ⟨by decide, by decide⟩, _, rfl, hs1.1, _, _, rfl, rfl, ?_, _, _, rfl, rfl, ?_, _, rfl, .inl ⟨_, rfl, _, _, rfl, rfl, (by show (0 : Int) < _; decide), _, rfl, hs2.1, _, _, rfl, rfl, ?_, ?_⟩⟩
    · exact sz (by have := hs1.2; show 1 + _ ≤ 100000; omega)
    · refine sz ?_
      rw [slen_app]
      have := hs1.2
      show 1 + _ + 1 ≤ 100000
      omega
    · refine sz ?_
      rw [slen_app, slen_app]
      have := hs1.2
      have := hs2.2
      show 1 + _ + 1 + _ ≤ 100000
      omega
    dsimp only
    have hnl : ((⟨#[c]⟩ ++ Str.ofString (toString ((k : Int) / 10)) ++ Str.ofString "/" ++ Str.ofString (toString ((k : Int) % 10)) : Str)).cps.toList = c :: tl8 k := by
      rw [app_list, app_list, app_list]
      rfl
    have hok : PyData.strOk (⟨#[c]⟩ ++ Str.ofString (toString ((k : Int) / 10)) ++ Str.ofString "/" ++ Str.ofString (toString ((k : Int) % 10)) : Str) = true := by
      rw [ok_app, ok_app, ok_app, let_ok c hcm, ok_numI (by omega), ok_numI (by omega)]
      decide +kernel
    generalize (⟨#[c]⟩ ++ Str.ofString (toString ((k : Int) / 10)) ++ Str.ofString "/" ++ Str.ofString (toString ((k : Int) % 10)) : Str) = name at hnl hok
    refine gnm13 rfl ?_
    obtain ⟨st, hst, hat⟩ := at_strs (zs := [Str.ofString "new", Str.ofString "new", Str.ofString "bound", Str.ofString "running", Str.ofString "ended"]) (i := state) b3.1 (by show state < 5; omega)
    refine ⟨_, rfl, _, _, rfl, rfl, _, rfl, _, rfl, _, rfl, p1, _, state, .str st, rfl, rfl, sql e1, hat, _, rfl, _, _, rfl, rfl, ⟨by decide, by decide⟩, (by show 8 ≤ sizeLine; decide), fun p5 h5 => ?_⟩
    dsimp only
    have s6 := s5.trans (same_upd (o := .tup [.int (1 + low), .str "run", .int (li : Int), .str st, .int (stop / 4), .str "w1", .int 2, .str ""]) h5)
    have e5 := upd_same (H := H3) (a := p5) (o := .tup [.int (1 + low), .str "run", .int (li : Int), .str st, .int (stop / 4), .str "w1", .int 2, .str ""])
    generalize upd H3 p5 (.tup [.int (1 + low), .str "run", .int (li : Int), .str st, .int (stop / 4), .str "w1", .int 2, .str ""]) = H4 at s6 e5
    refine gnm13 rfl ?_
    refine ⟨_, rfl, _, rfl, _, rfl, _, rfl, _, _, rfl, rfl, _, rfl, (by show 5 ≤ sizeLine; decide), fun p6 h6 => ?_⟩
    have n56 : p5 ≠ p6 := ne_of_none e5 h6
    refine q p6 (.task name b (b + low) (1 + low) li st (stop / 4)) _ (s6.free h6) (s6.trans (same_upd h6)) ⟨hok, st_ok st hst, hb, c, hnl⟩ fun G g => ?_
    have g5 := g p5 _ (s5.free h5) (by rw [upd_ne n56]; exact e5)
    have g6 := g p6 _ (s6.free h6) upd_same
    exact .tup (sqt g6) (.cons (.str _) (.cons (.str _) (.cons (.int _) (.cons (.int _) (.cons (.tup (sqt g5) (.cons (.int _) (.cons (.str _) (.cons (.int _) (.cons (.str _) (.cons (.int _) (.cons (.str _) (.cons (.int _) (.cons (.str _) .nil))))))))) .nil)))))
end
theorem row_task {n : Str} {b r vb vl : Int} {st : Str} {sp : Int} {x : Int × Str} (h : rowOf (.task n b r vb vl st sp) = some x) : x = (b, n) := by
  have e : rowOf (.task n b r vb vl st sp) = if pend st sp = true then some (b, n) else none := rfl
  rw [e] at h
  by_cases hp : pend st sp = true
  · rw [if_pos hp] at h
    exact (Option.some.inj h).symm
  · rw [if_neg hp] at h
    cases h
theorem rows_cons (e : E8) (es : List E8) : rows8 (e :: es) = (rowOf e).toList ++ rows8 es := by
  unfold rows8
  cases h : rowOf e <;> simp [h]
theorem nd8 : ∀ (es : List E8) (off : Nat), (∀ j e, es[j]? = some e → ok8 (off + j) e) → off + es.length ≤ 42 → ((rows8 es).map (·.2)).Nodup ∧ ∀ x ∈ (rows8 es).map (·.2), ∃ j c, off ≤ j ∧ j < 42 ∧ x.cps.toList = c :: tl8 j
  | [], _, _, _ => ⟨List.nodup_nil, fun _ h => by cases h⟩
  | e :: es, off, h, hl => by
    rw [List.length_cons] at hl
    obtain ⟨h1, h2⟩ := nd8 es (off + 1) (fun j e' he => by have := h (j + 1) e' (by simpa using he); rwa [show off + (j + 1) = off + 1 + j by omega] at this) (by omega)
    rw [rows_cons]
    have h0 := h 0 e rfl
    cases hr : rowOf e with
    | none =>
      refine ⟨h1, fun x hx => ?_⟩
      obtain ⟨j, c, g1, g2, g3⟩ := h2 x hx
      exact ⟨j, c, by omega, g2, g3⟩
    | some r =>
      have hc : ∃ c, r.2.cps.toList = c :: tl8 off := by
        cases e with
        | node n b => cases hr
        | serv n b => cases hr
        | task n b _ _ _ st sp =>
          rw [row_task hr]
          exact h0.2.2.2
      obtain ⟨c, hc⟩ := hc
      show (r.2 :: (rows8 es).map (·.2)).Nodup ∧ ∀ x ∈ r.2 :: (rows8 es).map (·.2), _
      refine ⟨List.nodup_cons.mpr ⟨fun hm => ?_, h1⟩, fun x hx => ?_⟩
      · obtain ⟨j, c2, g1, g2, g3⟩ := h2 _ hm
        rw [hc] at g3
        have := tl8_inj off (by omega) j g2 (List.cons.inj g3).2
        omega
      · rcases List.mem_cons.mp hx with e1 | hx
        · rw [e1]
          exact ⟨off, c, Nat.le_refl _, by omega, hc⟩
        · obtain ⟨j, c, g1, g2, g3⟩ := h2 x hx
          exact ⟨j, c, by omega, g2, g3⟩
theorem one8 : ∀ {l : List (Int × Str)} {r : Int × Str}, (l.map (·.2)).Nodup → r ∈ l → l.filterMap (fun e => if decide (V.str e.2 = V.str r.2) = true then some (PyData.int e.1) else none) = [.int r.1]
  | [], _, _, h => by cases h
  | x :: l, r, nd, h => by
    rw [List.map_cons] at nd
    obtain ⟨n1, n2⟩ := List.nodup_cons.mp nd
    rcases List.mem_cons.mp h with e | h
    · subst e
      have hn : l.filterMap (fun e => if decide (V.str e.2 = V.str r.2) = true then some (PyData.int e.1) else none) = [] := by
        rw [List.filterMap_eq_nil_iff]
        intro a ha
        refine if_neg fun z => n1 ?_
        rw [decide_eq_true_iff] at z
        rw [← V.str.inj z]
        exact List.mem_map_of_mem ha
      rw [List.filterMap_cons, if_pos (decide_eq_true rfl), hn]
    · have hx : (if decide (V.str x.2 = V.str r.2) = true then some (PyData.int x.1) else none) = none := by
        refine if_neg fun z => n1 ?_
        rw [decide_eq_true_iff] at z
        rw [V.str.inj z]
        exact List.mem_map_of_mem h
      rw [List.filterMap_cons, hx]
      exact one8 n2 h
theorem flat8 {k : Nat} {e : E8} (h : ok8 k e) : Flat 2 e.d := by
  have fs : ∀ {n : Nat} {x : Str}, PyData.strOk x = true → Flat n (.str x) := fun {n x} h => flat_str n x h
  cases e with
  | node n b =>
    refine flat_tup (n := 1) fun d hd => ?_
    simp only [List.mem_cons, List.not_mem_nil, or_false] at hd
    rcases hd with rfl | rfl | rfl | rfl | rfl
    · exact flat_str _ _
    · exact fs h
    · exact flat_int _ _
    · exact flat_int _ _
    · refine flat_tup (n := 0) fun d hd => ?_
      simp only [List.mem_cons, List.not_mem_nil, or_false] at hd
      rcases hd with rfl | rfl | rfl | rfl | rfl
      iterate 4 exact flat_int _ _
      exact flat_str _ _
  | serv n b =>
    refine flat_tup (n := 1) fun d hd => ?_
    simp only [List.mem_cons, List.not_mem_nil, or_false] at hd
    rcases hd with rfl | rfl | rfl | rfl | rfl
    · exact flat_str _ _
    · exact fs h
    · exact flat_int _ _
    · exact flat_int _ _
    · refine flat_tup (n := 0) fun d hd => ?_
      simp only [List.mem_cons, List.not_mem_nil, or_false] at hd
      rcases hd with rfl | rfl | rfl | rfl | rfl
      · exact flat_int _ _
      · exact flat_str _ _
      · exact flat_int _ _
      · exact flat_int _ _
      · exact flat_str _ _
  | task n b r vb vl st sp =>
    refine flat_tup (n := 1) fun d hd => ?_
    simp only [List.mem_cons, List.not_mem_nil, or_false] at hd
    rcases hd with rfl | rfl | rfl | rfl | rfl
    · exact flat_str _ _
    · exact fs h.1
    · exact flat_int _ _
    · exact flat_int _ _
    · refine flat_tup (n := 0) fun d hd => ?_
      simp only [List.mem_cons, List.not_mem_nil, or_false] at hd
      rcases hd with rfl | rfl | rfl | rfl | rfl | rfl | rfl | rfl
      · exact flat_int _ _
      · exact flat_str _ _
      · exact flat_int _ _
      · exact fs h.2.1
      · exact flat_int _ _
      · exact flat_str _ _
      · exact flat_int _ _
      · exact flat_str _ _
theorem born8 {es : List E8} (h : ∀ j e, es[j]? = some e → ok8 (1 + j) e) : ∀ r ∈ rows8 es, 1 ≤ r.1 := fun r hr => by
  obtain ⟨e, he, hre⟩ := List.mem_filterMap.mp hr
  obtain ⟨j, hj, rfl⟩ := List.getElem_of_mem he
  have := h j _ (List.getElem?_eq_getElem hj)
  generalize es[j] = e at this hre
  cases e with
  | node n b => cases hre
  | serv n b => cases hre
  | task n b _ _ _ st sp =>
    rw [row_task hre]
    exact this.2.2.1
theorem srt_pw (es : List E8) : (srt8 es).Pairwise fun a b => le8 a b = true :=
  PySem.W.sort_pairwise (le := le8) (PySem.W.sortLe_total (listOrd itemOrd) false fun b => PySem.W.keyToks (pr b)) (rows8 es)
theorem srt_perm (es : List E8) : (srt8 es).Perm (rows8 es) := List.mergeSort_perm _ _
theorem rows_more {es : List E8} {i : Nat} {e : E8} (h : es[i]? = some e) : rows8 (es.take (i + 1)) = rows8 (es.take i) ++ (rowOf e).toList := by
  unfold rows8
  rw [take_more h, List.filterMap_append]
  cases hr : rowOf e <;> simp [hr]
section
variable {P : Program} {w : World} {K : PySem.W.Frag} {mg : Str → Option Value} {base : Heap}
theorem ok_law (T : TX K mg) : FnOk P w K mg base CX0 4 T.a_law T.d_law ["script"] (sp_law K) := by
  refine T.F_law.ok sc_law (fun vs H Q E h => ?_) (fun cdv A outer s H vs Q E hr h => ?_)
  · obtain ⟨a, ns, rfl, _⟩ := h
    rfl
  · obtain ⟨a, ns, rfl, hS, hlen, q⟩ := h
    refine ⟨_, (pss_cons (ps_set (i := 1) sc_law.nd rfl (Or.inl rfl) (pe_ix ix_list (pe_call (ok__law_digits T) (hr.mono (by decide)) (by rfl) T.g__law_digits T.F__law_digits.kp T.b__law_digits .nil pass0 (pa_cons (pv 0) (pa_cons pe_int (pa_cons (pe_lst (pa_cons pe_int pa_nil)) pa_nil)))) pe_int (fun _ _ => rfl)))
      (pss_cons (ps_setLc (i := 2) (own := [("k", 10)]) (g := gName 10) (tt := tYes) (by rfl) sc_law.nd rfl rfl (sw_true rfl rfl rfl (by decide +kernel)) (pi_range1 (by rfl) T.n_range (pa_cons (pv 1) pa_nil)) (blkOk_by (own := [("k", 10)]) (N := ["script", "size", "entries", "kept", "actual", "rows", "entry", "last", "name", "borns", "k", "row"]) (sc := defScope s_law) (by decide +kernel)) (fun _ _ _ _ _ => pg_name (i := 10) sc_law.nd rfl (Or.inl rfl)) (fun _ _ _ _ _ => pts_nil) (fun _ _ _ _ _ => (pe_call (ok__law_entry T) (hr.mono (by decide)) (by rfl) T.g__law_entry T.F__law_entry.kp T.b__law_entry .nil pass0 (pa_cons (pv 0) (pa_cons (pe_op op_add pe_int (pv 10)) pa_nil)))))
      (pss_cons (ps_setLc (i := 3) (own := [("entry", 6)]) (g := gName 6) (tt := tYes) (by rfl) sc_law.nd rfl rfl (sw_true rfl rfl rfl (by decide +kernel)) (pi_list (pv 2)) (blkOk_by (own := [("entry", 6)]) (N := ["script", "size", "entries", "kept", "actual", "rows", "entry", "last", "name", "borns", "k", "row"]) (sc := defScope s_law) (by decide +kernel)) (fun _ _ _ _ _ => pg_name (i := 6) sc_law.nd rfl (Or.inl rfl)) (fun _ _ _ _ _ => pts_nil) (fun _ _ _ _ _ => (pv 6)))
      (pss_cons (ps_set (i := 4) sc_law.nd rfl (Or.inl rfl) (pe_call (ok_pending_tasks T) (hr.mono (by decide)) (by rfl) T.g_pending_tasks T.F_pending_tasks.kp T.b_pending_tasks .nil pass0 (pa_cons (pv 2) pa_nil)))
      (pss_cons (ps_if (PW.pt (pw_or (pt_cmpR (op_neD hr.units) (pv 2) (pv 3) (nomark _)) (pw_or1 (pt_not (pt_val (pe_callB call_isi (by rfl) T.n_isinstance (by decide +kernel) (pa_cons (pv 4) (pa_cons (pe_bltn (v := .ty "list") (u := .type "list") (by rfl) T.n_list (by decide +kernel) rfl) pa_nil)))))))) (pss_one (ps_ret pe_bl)) pss_nil)
      (pss_cons (ps_set (i := 5) sc_law.nd rfl (Or.inl rfl) (pe_lst pa_nil))
      (pss_cons (ps_for PassesOwn.never rfl (pi_list (pv 3)) (pg_name (i := 6) sc_law.nd rfl (Or.inl rfl))
        (pss_one (ps_if (PW.pt (pw_and (pt_cmpR op_eq (pe_ix ix_tup (pv 6) pe_int (fun _ _ => rfl)) pe_str (nomark _)) (pw_and (pt_cmpR op_eq (pe_ix ix_tup (pe_ix ix_tup (pv 6) pe_int (fun _ _ => rfl)) pe_int (fun _ _ => rfl)) pe_str (nomark _)) (pw_and1 (pt_cmpR op_eq (pe_ix ix_tup (pe_ix ix_tup (pv 6) pe_int (fun _ _ => rfl)) pe_int (fun _ _ => rfl)) pe_int (nomark _)))))) (pss_one (ps_expr (pe_bm PySem.F.plainAttrs_list PySem.F.slot_list_append PySem.F.type_list_append mt_append (pv 5) (pa_cons (pe_tup (pa_cons (pe_ix ix_tup (pv 6) pe_int (fun _ _ => rfl)) (pa_cons (pe_ix ix_tup (pv 6) pe_int (fun _ _ => rfl)) pa_nil))) pa_nil)))) pss_nil)))
      (pss_cons (ps_if (pt_cmpR op_ne (pe_callB call_len_seq (by rfl) T.n_len PySem.boot_len (pa_cons (pv 4) pa_nil)) (pe_callB call_len_seq (by rfl) T.n_len PySem.boot_len (pa_cons (pv 5) pa_nil)) (nomark _)) (pss_one (ps_ret pe_bl)) pss_nil)
      (pss_cons (ps_set (i := 7) sc_law.nd rfl (Or.inl rfl) (pe_tup (pa_cons pe_int (pa_cons pe_str pa_nil))))
      (pss_cons (ps_for PassesOwn.never rfl (pi_list (pv 4)) (pg_name (i := 8) sc_law.nd rfl (Or.inr rfl))
        (pss_cons (ps_if (pt_not (pt_val (pe_callB call_isi (by rfl) T.n_isinstance (by decide +kernel) (pa_cons (pv 8) (pa_cons (pe_bltn (v := .ty "str") (u := .type "str") (by rfl) T.n_str (by decide +kernel) rfl) pa_nil))))) (pss_one (ps_ret pe_bl)) pss_nil)
        (pss_cons (ps_setLc (i := 9) (own := [("row", 11)]) (g := gName 11)  (by rfl) sc_law.nd rfl rfl (sw_true rfl rfl rfl (by decide +kernel)) (pi_list (pv 5)) (blkOk_by (own := [("row", 11)]) (N := ["script", "size", "entries", "kept", "actual", "rows", "entry", "last", "name", "borns", "k", "row"]) (sc := defScope s_law) (by decide +kernel)) (fun _ _ _ _ _ => pg_name (i := 11) sc_law.nd rfl (Or.inl rfl)) (fun _ _ _ _ _ => pts_one (pt_cmpR op_eq (pe_ix (ixK_tup (K := K) rfl) (pv 11) pe_int (fun _ _ => rfl)) (pv 8) (nomark _))) (fun _ _ _ _ _ => (pe_ix (ixK_tup (K := K) rfl) (pv 11) pe_int (fun _ _ => rfl))))
        (pss_cons (ps_if (PW.pt (pw_or (pt_cmpR op_ne (pe_callB call_len_seq (by rfl) T.n_len PySem.boot_len (pa_cons (pv 9) pa_nil)) pe_int (nomark _)) (pw_or1 (pt_not (pt_cmpR (op_ltD hr.units) (pv 7) (pe_tup (pa_cons (pe_ix ix_list (pv 9) pe_int (fun _ _ => rfl)) (pa_cons (pv 8) pa_nil))) (nomark _)))))) (pss_one (ps_ret pe_bl)) pss_nil)
        (pss_one (ps_set (i := 7) sc_law.nd rfl (Or.inl rfl) (pe_tup (pa_cons (pe_ix ix_list (pv 9) pe_int (fun _ _ => rfl)) (pa_cons (pv 8) pa_nil)))))))))
      (pss_one (ps_ret pe_bl)))))))))))), ?_⟩
    refine nrm12 rfl ?_
    refine ⟨_, rfl, (by show 1 ≤ sizeLine; decide), fun z hz => ?_⟩
    have s1 := same_upd (o := .lst [.int 41]) hz
    refine ⟨a, z, ns, [41], 0, rfl, s1.seq hS, ⟨by omega, by omega⟩, sql upd_same, by decide, (by simp), fun p H1 ds hp s2 e2 hd => ?_⟩
    obtain ⟨size, rfl, z0, z1⟩ := digs1 hd
    have s3 := s1.trans s2
    refine ⟨p, _, 0, _, rfl, rfl, sql e2, atI_nat (j := 0) rfl, ?_⟩
    have hS1 := s3.seq hS
    clear s1 s2 e2 hd hp hz
    refine gnm12 rfl ?_
    -- the entries
    refine ⟨_, rfl, size, rfl, by omega, by omega, fun D hD => ?_⟩
    refine lcg (K := K) (walk_range (lo := 0) (n := size.toNat)) (fun i ds => ∃ es : List E8, ds = es.map E8.d ∧ es.length = i ∧ ∀ j e, es[j]? = some e → ok8 (1 + j) e) ⟨[], rfl, rfl, fun j e h => by simp at h⟩ hD (fun _ _ => trivial) (by omega) ?_ ?_
    · rintro i x G G1 ds hi s4 ⟨l, hl⟩ ⟨es, rfl, he, hok⟩ ⟨rfl, rfl⟩ J j1 j2
      refine ⟨rfl, ?_⟩
      dsimp only [tYes]
      refine (if_pos rfl).mpr ?_
      refine ⟨_, rfl, _, rfl, _, _, rfl, rfl, a, ns, 1 + i, congrArg (fun z => [V.ref a, V.int z]) (by omega : (1 : Int) + (0 + (i : Int)) = ((1 + i : Nat) : Int)), s4.seq hS1, by omega, fun p e H' hp s5 hke hdp => ?_⟩
      refine j2 _ e.d H' s5 (fun G'' s6 o => hdp G'' fun b u hb hb' => o b u (fun z => by rw [z, hl] at hb; cases hb) hb') ⟨es ++ [e], by simp, by simp [he], fun j e' hj => ?_⟩
      rcases Nat.lt_or_ge j es.length with h | h
      · rw [List.getElem?_append_left h] at hj
        exact hok j e' hj
      · rw [List.getElem?_append_right h] at hj
        have hj0 : j = i := by
          have := (List.getElem?_eq_some_iff.mp hj).1
          simp only [List.length_cons, List.length_nil] at this
          omega
        subst hj0
        rw [he, Nat.sub_self] at hj
        cases hj
        exact hke
    rintro H2 ys _ s4 e4 h4 ⟨es, rfl, hes, hok⟩
    have hel : es.length ≤ 40 := by omega
    have hnd := nd8 es 1 hok (by omega)
    have hfl : Flat 3 (.list (es.map E8.d)) := flat_list (n := 2) fun d hd => by
      obtain ⟨e, he, rfl⟩ := List.mem_map.mp hd
      obtain ⟨j, hj, rfl⟩ := List.getElem_of_mem he
      exact flat8 (hok j _ (List.getElem?_eq_getElem hj))
    refine gnm12 rfl ?_
    -- kept
    refine ⟨_, rfl, D, rfl, ⟨_, sql e4⟩, fun D2 hD2 => ?_⟩
    refine lcd (K := K) es E8.d (fun e => some e.d) hD2 (sql e4) h4 (by omega) ?_ ?_
    · intro x e G he s5 _ hdp J j1 j2
      refine ⟨rfl, ?_⟩
      dsimp only [tYes]
      refine (if_pos rfl).mpr ?_
      exact ⟨_, rfl, j2 _ _ G (Same.refl _) (fun G'' s6 _ => dp_same s6 _ hdp) rfl⟩
    intro H3 zs s5 e5 h5
    have hmm : es.filterMap (fun e => some e.d) = es.map E8.d := by rw [← List.filterMap_eq_map]; rfl
    rw [hmm] at h5
    have e4 := s5 _ _ e4
    have h4 := dpa_same s5 _ h4
    have s6 := s4.trans s5
    clear s4 s5 hD hD2
    refine gnm12 rfl ?_
    -- actual
    refine ⟨_, rfl, D, ys, es, rfl, sql e4, h4, by omega, fun p4 H4 hp4 s7 e7 => ?_⟩
    have e4 := s7 _ _ e4
    have h4 := dpa_same s7 _ h4
    have e5 := s7 _ _ e5
    have h5 := dpa_same s7 _ h5
    have s8 := s6.trans s7
    clear s6 s7 hp4
    refine gnm12 rfl ?_
    refine ⟨_, rfl, _, rfl, _, _, .lst (sql e4) h4, .lst (sql e5) h5, hfl.sh (by decide), hfl.sh (by decide), _, rfl, ifbf (by rw [eqv_self (hfl.sh (by decide))]; rfl) ?_⟩
    refine ⟨_, rfl, _, .ty "list", .type "list", .type "list", true, rfl, .ty _, tyx_l (sql e7), kit_ty (by decide +kernel), _, rfl, ifbf rfl ?_⟩
    -- rows
    refine ⟨Nat.zero_le _, fun R hR => ?_⟩
    refine gnm12 rfl ?_
    refine ⟨_, rfl, D2, rfl, ⟨_, sql (same_upd hR _ _ e5)⟩, for_list (K := K) (a := D2) (xs := zs) (fun i σ G => ∃ x6 rs, σ = [some (.ref a), some (.int size), some (.ref D), some (.ref D2), some (.ref p4), some (.ref R), x6, none, none, none, none, none] ∧ Same H4 G ∧ G R = some (.lst rs) ∧ (∀ G'', Same H4 G'' → Off R G G'' → DpAll K G'' rs ((rows8 (es.take i)).map pr)))
      ⟨none, [], rfl, same_upd hR, upd_same, fun _ _ _ => .nil⟩ (fun i σ G _ ⟨_, _, _, h, _⟩ => sql (h _ _ e5)) ?_ ?_⟩
    · rintro i x σ G hx ⟨x6, rs, rfl, g1, g2, g3⟩
      obtain ⟨d, hd, hdp⟩ := dpa_at h5 hx
      rw [List.getElem?_map] at hd
      cases he : es[i]? with
      | none => rw [he] at hd; cases hd
      | some e =>
        rw [he] at hd
        cases hd
        have hrm := rows_more he
        have same_rows : rowOf e = none → (∀ G'', Same H4 G'' → Off R G G'' → DpAll K G'' rs ((rows8 (es.take (i + 1))).map pr)) := fun h => by
          rw [hrm, h]
          simpa using g3
        cases e with
        | node n b =>
          obtain ⟨p, v0, v1, v2, v3, v, rfl, ht, ⟨⟩, ⟨⟩, ⟨⟩, ⟨⟩, hv⟩ := dp_t5 hdp
          have ht := sqt_same g1 ht
          exact ⟨_, rfl, p, _, 0, _, rfl, rfl, ht, atI_nat (j := 0) rfl, rfl, _, rfl, iff0 (by decide +kernel) (ifbf rfl ⟨_, rs, rfl, g1, g2, same_rows rfl⟩)⟩
        | serv n b =>
          obtain ⟨p, v0, v1, v2, v3, v, rfl, ht, ⟨⟩, ⟨⟩, ⟨⟩, ⟨⟩, hv⟩ := dp_t5 hdp
          have ht := sqt_same g1 ht
          exact ⟨_, rfl, p, _, 0, _, rfl, rfl, ht, atI_nat (j := 0) rfl, rfl, _, rfl, iff0 (by decide +kernel) (ifbf rfl ⟨_, rs, rfl, g1, g2, same_rows rfl⟩)⟩
        | task n b r vb vl st sp =>
          have hro : rowOf (.task n b r vb vl st sp) = if pend st sp = true then some (b, n) else none := rfl
          obtain ⟨p, v0, v1, v2, v3, v, rfl, ht, ⟨⟩, ⟨⟩, ⟨⟩, ⟨⟩, hv⟩ := dp_t5 hdp
          have ht := sqt_same g1 ht
          obtain ⟨p2, w0, w1, w2, w3, w4, w5, w6, w7, rfl, hp2, ⟨⟩, ⟨⟩, ⟨⟩, ⟨⟩, ⟨⟩, ⟨⟩, ⟨⟩, ⟨⟩⟩ := dp_t8 hv
          have hp2 := sqt_same g1 hp2
          refine ⟨_, rfl, p, _, 0, _, rfl, rfl, ht, atI_nat (j := 0) rfl, rfl, _, rfl, ift rfl ?_⟩
          refine ⟨_, rfl, p, _, 4, _, rfl, rfl, ht, atI_nat (j := 4) rfl, p2, _, 3, _, rfl, rfl, hp2, atI_nat (j := 3) rfl, rfl, _, rfl, ifd (fun h1 => ?_) (fun h1 => ifbf rfl ⟨_, rs, rfl, g1, g2, same_rows (by rw [hro]; simp [pend, h1])⟩)⟩
          refine ⟨_, rfl, p, _, 4, _, rfl, rfl, ht, atI_nat (j := 4) rfl, p2, _, 4, _, rfl, rfl, hp2, atI_nat (j := 4) rfl, rfl, _, rfl, ifd (fun h2 => ?_) (fun h2 => ⟨_, rs, rfl, g1, g2, same_rows (by rw [hro]; simp [pend, h2])⟩)⟩
          refine ⟨_, rfl, .inl ⟨rfl, _, sql g2⟩, _, rfl, p, _, 2, _, rfl, rfl, ht, atI_nat (j := 2) rfl, _, rfl, p, _, 1, _, rfl, rfl, ht, atI_nat (j := 1) rfl, (by show 2 ≤ sizeLine; decide), fun t hn => ?_⟩
          have hl : rs.length = (rows8 (es.take i)).length := by have := dpa_len (g3 G g1 (Off.refl _ _)); rwa [List.length_map] at this
          have hl2 : (rows8 (es.take i)).length ≤ es.length := by
            unfold rows8
            exact Nat.le_trans (List.length_filterMap_le _ _) (by rw [List.length_take]; omega)
          have ntR : R ≠ t := ne_of_none g2 hn
          refine ⟨R, rs, _, rfl, rfl, by rw [upd_ne ntR]; exact g2, szl (by omega), ?_⟩
          refine ⟨_, rs ++ [.ref t], rfl, same_put (g1.trans (same_upd hn)) hR, upd_same, fun G'' s9 o => ?_⟩
          rw [hrm, hro, if_pos (by simp [pend, h1, h2])]
          show DpAll K G'' (rs ++ [.ref t]) ((rows8 (es.take i) ++ [(b, n)]).map pr)
          rw [List.map_append]
          refine dpa_app (g3 G'' s9 (Off.pre (same_upd hn) o.put)) (.cons (.tup (sqt (o.put t _ ntR.symm upd_same)) (.cons (.int _) (.cons (.str _) .nil))) .nil)
    rintro σ G ⟨x6, rs, rfl, g1, g2, g3⟩
    have hzl : zs.length = es.length := by have := dpa_len h5; rwa [List.length_map] at this
    rw [hzl, List.take_length] at g3
    have hrs := g3 G g1 (Off.refl _ _)
    have hl : rs.length = (rows8 es).length := by have := dpa_len hrs; rwa [List.length_map] at this
    have e7 := g1 _ _ e7
    have hsl : (srt8 es).length = (rows8 es).length := (srt_perm es).length_eq
    refine ⟨_, rfl, p4, _, rfl, .inl (sql e7), _, rfl, R, _, rfl, .inl (sql g2), rfl, _, rfl, ifnt (congrArg V.int (by rw [List.length_map, hsl, hl])) ?_⟩
    -- last
    refine ⟨(by show 2 ≤ sizeLine; decide), fun t ht => ?_⟩
    have s9 := same_upd (o := .tup [.int 0, .str ""]) ht
    have dl : Dp K (upd G t (.tup [.int 0, .str ""])) (.ref t) (pr (0, "")) := .tup (sqt upd_same) (.cons (.int _) (.cons (.str _) .nil))
    have e7 := s9 _ _ e7
    have g2 := s9 _ _ g2
    have hrs := dpa_same s9 _ hrs
    generalize upd G t (.tup [.int 0, .str ""]) = G5 at s9 dl e7 g2 hrs
    refine gnm12 rfl ?_
    have hrl : (rows8 es).length ≤ es.length := List.length_filterMap_le _ _
    refine ⟨_, rfl, p4, rfl, ⟨_, sql e7⟩, for_list (K := K) (a := p4) (xs := (srt8 es).map fun r => V.str r.2) (fun i σ G => ∃ t lr x8 x9, σ = [some (.ref a), some (.int size), some (.ref D), some (.ref D2), some (.ref p4), some (.ref R), x6, some (.ref t), x8, x9, none, none] ∧ Same G5 G ∧ Dp K G (.ref t) (pr lr) ∧ ∀ r, (srt8 es)[i]? = some r → PySem.W.dataLt (pr lr) (pr r) = true)
      ⟨t, (0, ""), none, none, rfl, Same.refl _, dl, fun r hr => ?_⟩ (fun i σ G _ ⟨_, _, _, _, _, h, _⟩ => sql (h _ _ e7)) ?_ ?_⟩
    · have hm := (srt_perm es).mem_iff.mp (List.mem_of_getElem? hr)
      have := born8 hok r hm
      rw [lt_pr, if_neg (by show ¬ (0 : Int) = r.1; omega), decide_eq_true_iff]
      show (0 : Int) < r.1
      omega
    · rintro i x σ G hx ⟨t, lr, x8, x9, rfl, s10, dl, hlt⟩
      obtain ⟨r, hri, rfl⟩ := map_at hx
      have hrm := (srt_perm es).mem_iff.mp (List.mem_of_getElem? hri)
      have hlr := hlt r hri
      refine gnm12 rfl ?_
      refine ⟨_, rfl, .str r.2, .ty "str", .type "str", .type "str", true, rfl, .ty _, .base (.str _), kit_ty (by decide +kernel), _, rfl, ifbf rfl ?_⟩
      refine ⟨_, rfl, R, rfl, ⟨_, sql (s10 _ _ g2)⟩, fun D3 hD3 => ?_⟩
      refine lcd (K := K) (rows8 es) pr (fun e => if decide (V.str e.2 = V.str r.2) = true then some (.int e.1) else none) hD3 (sql (s10 _ _ g2)) (dpa_same s10 _ hrs) (by omega) ?_ ?_
      · intro x e G2 he s11 _ hdp J j1 j2
        obtain ⟨p2, v0, v1, rfl, ht, ⟨⟩, ⟨⟩⟩ := dp_t2 hdp
        have ht := sqt_same s11 ht
        refine ⟨rfl, _, rfl, p2, _, 1, _, rfl, rfl, ht, atI_nat (j := 1) rfl, _, rfl, rfl, _, rfl, ifd (fun h => ?_) (fun h => ?_)⟩
        · exact ⟨_, rfl, p2, _, 0, _, rfl, rfl, ht, atI_nat (j := 0) rfl, j2 _ _ G2 (Same.refl _) (fun _ _ _ => .int _) (if_pos (decide_eq_true h))⟩
        · exact j1 _ (Same.refl _) (if_neg (by simpa using h))
      intro G2 ws s11 e11 h11
      rw [one8 hnd.1 hrm] at h11
      obtain ⟨ws', rfl, h12⟩ := dpa_int h11
      obtain rfl := dpa_nil h12
      have s12 := s10.trans s11
      refine gnm12 rfl ?_
      refine ⟨_, rfl, D3, _, rfl, .inl (sql e11), rfl, _, rfl, ifnt rfl ?_⟩
      refine ⟨_, rfl, _, rfl, D3, _, 0, _, rfl, rfl, sql e11, atI_nat (j := 0) rfl, _, rfl, (by show 2 ≤ sizeLine; decide), fun u hu => ?_⟩
      have s13 := same_upd (o := .tup [.int r.1, .str r.2]) hu
      refine ⟨pr lr, pr r, dp_same s13 _ (dp_same s11 _ dl), .tup (sqt upd_same) (.cons (.int _) (.cons (.str _) .nil)), rfl, (by intro h; cases h), (by simp [pr, PyData.depth, PyData.depthAll]), _, rfl, ifbf (by rw [hlr]; rfl) ?_⟩
      refine ⟨_, rfl, D3, _, 0, _, rfl, rfl, sql (s13 _ _ e11), atI_nat (j := 0) rfl, _, rfl, (by show 2 ≤ sizeLine; decide), fun u2 hu2 => ?_⟩
      refine ⟨u2, r, _, _, rfl, (s12.trans s13).trans (same_upd hu2), .tup (sqt upd_same) (.cons (.int _) (.cons (.str _) .nil)), fun r2 hr2 => ?_⟩
      have hp := srt_pw es
      have hndS : ((srt8 es).map (·.2)).Nodup := ((srt_perm es).map (·.2)).nodup_iff.mpr hnd.1
      obtain ⟨i1, rfl⟩ := List.getElem?_eq_some_iff.mp hri
      obtain ⟨i2, rfl⟩ := List.getElem?_eq_some_iff.mp hr2
      refine le8_lt (List.pairwise_iff_getElem.mp hp i (i + 1) i1 i2 (by omega)) fun z => ?_
      have hj := List.pairwise_iff_getElem.mp hndS i (i + 1) (by rw [List.length_map]; exact i1) (by rw [List.length_map]; exact i2) (by omega)
      rw [List.getElem_map, List.getElem_map, z] at hj
      exact hj rfl
    · rintro σ G ⟨t, lr, x8, x9, rfl, _⟩
      exact q _
end
theorem all_mk {l : PySem.W.OpenLaw} {w : World} {K : PySem.W.Frag} {h : Heap} {mg : Str → Option Value} {fa : Addr} (X : K.In h) (G : h.Ns mainGlobals mg) (hfa : mg "law" = some (.ref fa))
    {f_pending_tasks : Addr} {od_pending_tasks an_pending_tasks : Option Addr} {sl_pending_tasks : Array (Option Value)} {oc_pending_tasks kV_pending_tasks dc_pending_tasks pm_pending_tasks cd_pending_tasks ct_pending_tasks : Value} {f__is_pending : Addr} {od__is_pending an__is_pending : Option Addr} {sl__is_pending : Array (Option Value)} {oc__is_pending kV__is_pending dc__is_pending pm__is_pending cd__is_pending ct__is_pending : Value} {f__law_number : Addr} {od__law_number an__law_number : Option Addr} {sl__law_number : Array (Option Value)} {oc__law_number kV__law_number dc__law_number pm__law_number cd__law_number ct__law_number : Value} {f__law_digits : Addr} {od__law_digits an__law_digits : Option Addr} {sl__law_digits : Array (Option Value)} {oc__law_digits kV__law_digits dc__law_digits pm__law_digits cd__law_digits ct__law_digits : Value} {f__law_entry : Addr} {od__law_entry an__law_entry : Option Addr} {sl__law_entry : Array (Option Value)} {oc__law_entry kV__law_entry dc__law_entry pm__law_entry cd__law_entry ct__law_entry : Value} {f_law : Addr} {od_law an_law : Option Addr} {sl_law : Array (Option Value)} {oc_law kV_law dc_law pm_law cd_law ct_law : Value} {t_STATE : Tok} {t_STOP : Tok}
    (g_pending_tasks : PySem.W.nsIn K mainGlobals "pending_tasks" = some (some (.ref f_pending_tasks)))
    (l_pending_tasks : K.lookup f_pending_tasks = some ⟨oc_pending_tasks, od_pending_tasks, .func (PySem.W.fnOf "pending_tasks" "pending_tasks" (defArgs s_pending_tasks) (defBody s_pending_tasks) (defScope s_pending_tasks) .none kV_pending_tasks dc_pending_tasks pm_pending_tasks an_pending_tasks cd_pending_tasks ct_pending_tasks), sl_pending_tasks⟩)
    (c_pending_tasks : PySem.W.codeIn K cd_pending_tasks "pending_tasks" = true)
    (k_pending_tasks : PySem.W.keepIn K (.ref f_pending_tasks) = true)
    (g__is_pending : PySem.W.nsIn K mainGlobals "_is_pending" = some (some (.ref f__is_pending)))
    (l__is_pending : K.lookup f__is_pending = some ⟨oc__is_pending, od__is_pending, .func (PySem.W.fnOf "_is_pending" "_is_pending" (defArgs s__is_pending) (defBody s__is_pending) (defScope s__is_pending) .none kV__is_pending dc__is_pending pm__is_pending an__is_pending cd__is_pending ct__is_pending), sl__is_pending⟩)
    (c__is_pending : PySem.W.codeIn K cd__is_pending "_is_pending" = true)
    (k__is_pending : PySem.W.keepIn K (.ref f__is_pending) = true)
    (g__law_number : PySem.W.nsIn K mainGlobals "_law_number" = some (some (.ref f__law_number)))
    (l__law_number : K.lookup f__law_number = some ⟨oc__law_number, od__law_number, .func (PySem.W.fnOf "_law_number" "_law_number" (defArgs s__law_number) (defBody s__law_number) (defScope s__law_number) .none kV__law_number dc__law_number pm__law_number an__law_number cd__law_number ct__law_number), sl__law_number⟩)
    (c__law_number : PySem.W.codeIn K cd__law_number "_law_number" = true)
    (k__law_number : PySem.W.keepIn K (.ref f__law_number) = true)
    (g__law_digits : PySem.W.nsIn K mainGlobals "_law_digits" = some (some (.ref f__law_digits)))
    (l__law_digits : K.lookup f__law_digits = some ⟨oc__law_digits, od__law_digits, .func (PySem.W.fnOf "_law_digits" "_law_digits" (defArgs s__law_digits) (defBody s__law_digits) (defScope s__law_digits) .none kV__law_digits dc__law_digits pm__law_digits an__law_digits cd__law_digits ct__law_digits), sl__law_digits⟩)
    (c__law_digits : PySem.W.codeIn K cd__law_digits "_law_digits" = true)
    (k__law_digits : PySem.W.keepIn K (.ref f__law_digits) = true)
    (g__law_entry : PySem.W.nsIn K mainGlobals "_law_entry" = some (some (.ref f__law_entry)))
    (l__law_entry : K.lookup f__law_entry = some ⟨oc__law_entry, od__law_entry, .func (PySem.W.fnOf "_law_entry" "_law_entry" (defArgs s__law_entry) (defBody s__law_entry) (defScope s__law_entry) .none kV__law_entry dc__law_entry pm__law_entry an__law_entry cd__law_entry ct__law_entry), sl__law_entry⟩)
    (c__law_entry : PySem.W.codeIn K cd__law_entry "_law_entry" = true)
    (k__law_entry : PySem.W.keepIn K (.ref f__law_entry) = true)
    (g_law : PySem.W.nsIn K mainGlobals "law" = some (some (.ref f_law)))
    (l_law : K.lookup f_law = some ⟨oc_law, od_law, .func (PySem.W.fnOf "law" "law" (defArgs s_law) (defBody s_law) (defScope s_law) .none kV_law dc_law pm_law an_law cd_law ct_law), sl_law⟩)
    (c_law : PySem.W.codeIn K cd_law "law" = true)
    (k_law : PySem.W.keepIn K (.ref f_law) = true)
    (c_STATE : PySem.W.nsIn K mainGlobals "STATE" = some (some (.int 3 t_STATE)))
    (c_STOP : PySem.W.nsIn K mainGlobals "STOP" = some (some (.int 4 t_STOP)))
    (n_len : PySem.W.nsIn K mainGlobals "len" = some none)
    (n_abs : PySem.W.nsIn K mainGlobals "abs" = some none)
    (n_int : PySem.W.nsIn K mainGlobals "int" = some none)
    (n_sorted : PySem.W.nsIn K mainGlobals "sorted" = some none)
    (n_str : PySem.W.nsIn K mainGlobals "str" = some none)
    (n_range : PySem.W.nsIn K mainGlobals "range" = some none)
    (n_isinstance : PySem.W.nsIn K mainGlobals "isinstance" = some none)
    (n_list : PySem.W.nsIn K mainGlobals "list" = some none) :
    ∃ fd : FuncData, (∀ (s : Shared) (v : Value), BindsTo s fd ⟨[v], []⟩ [("script", v)]) ∧ ∀ base : Heap, K.In base → base.Ns mainGlobals mg → FnOk l.prog w K mg base CX0 4 fa fd ["script"] (sp_law K) := by
  have e : fa = f_law := by
    have z := hfa.symm.trans (PySem.W.mg_of X G g_law)
    injection z with z
    injection z
  rw [e]
  let T : TX K mg := ⟨f_pending_tasks, (PySem.W.fnOf "pending_tasks" "pending_tasks" (defArgs s_pending_tasks) (defBody s_pending_tasks) (defScope s_pending_tasks) .none kV_pending_tasks dc_pending_tasks pm_pending_tasks an_pending_tasks cd_pending_tasks ct_pending_tasks), (fun_mk (st := s_pending_tasks) l_pending_tasks c_pending_tasks k_pending_tasks), ((fun_mk (st := s_pending_tasks) l_pending_tasks c_pending_tasks k_pending_tasks).binds (ps := ["entries"]) fun _ _ _ _ _ _ us hl => match us, hl with | [_], _ => rfl), (PySem.W.mg_of X G g_pending_tasks), f__is_pending, (PySem.W.fnOf "_is_pending" "_is_pending" (defArgs s__is_pending) (defBody s__is_pending) (defScope s__is_pending) .none kV__is_pending dc__is_pending pm__is_pending an__is_pending cd__is_pending ct__is_pending), (fun_mk (st := s__is_pending) l__is_pending c__is_pending k__is_pending), ((fun_mk (st := s__is_pending) l__is_pending c__is_pending k__is_pending).binds (ps := ["value"]) fun _ _ _ _ _ _ us hl => match us, hl with | [_], _ => rfl), (PySem.W.mg_of X G g__is_pending), f__law_number, (PySem.W.fnOf "_law_number" "_law_number" (defArgs s__law_number) (defBody s__law_number) (defScope s__law_number) .none kV__law_number dc__law_number pm__law_number an__law_number cd__law_number ct__law_number), (fun_mk (st := s__law_number) l__law_number c__law_number k__law_number), ((fun_mk (st := s__law_number) l__law_number c__law_number k__law_number).binds (ps := ["script", "k"]) fun _ _ _ _ _ _ us hl => match us, hl with | [_, _], _ => rfl), (PySem.W.mg_of X G g__law_number), f__law_digits, (PySem.W.fnOf "_law_digits" "_law_digits" (defArgs s__law_digits) (defBody s__law_digits) (defScope s__law_digits) .none kV__law_digits dc__law_digits pm__law_digits an__law_digits cd__law_digits ct__law_digits), (fun_mk (st := s__law_digits) l__law_digits c__law_digits k__law_digits), ((fun_mk (st := s__law_digits) l__law_digits c__law_digits k__law_digits).binds (ps := ["script", "k", "sizes"]) fun _ _ _ _ _ _ us hl => match us, hl with | [_, _, _], _ => rfl), (PySem.W.mg_of X G g__law_digits), f__law_entry, (PySem.W.fnOf "_law_entry" "_law_entry" (defArgs s__law_entry) (defBody s__law_entry) (defScope s__law_entry) .none kV__law_entry dc__law_entry pm__law_entry an__law_entry cd__law_entry ct__law_entry), (fun_mk (st := s__law_entry) l__law_entry c__law_entry k__law_entry), ((fun_mk (st := s__law_entry) l__law_entry c__law_entry k__law_entry).binds (ps := ["script", "k"]) fun _ _ _ _ _ _ us hl => match us, hl with | [_, _], _ => rfl), (PySem.W.mg_of X G g__law_entry), f_law, (PySem.W.fnOf "law" "law" (defArgs s_law) (defBody s_law) (defScope s_law) .none kV_law dc_law pm_law an_law cd_law ct_law), (fun_mk (st := s_law) l_law c_law k_law), ((fun_mk (st := s_law) l_law c_law k_law).binds (ps := ["script"]) fun _ _ _ _ _ _ us hl => match us, hl with | [_], _ => rfl), (PySem.W.mg_of X G g_law), t_STATE, (PySem.W.mg_of X G c_STATE), t_STOP, (PySem.W.mg_of X G c_STOP), (PySem.W.mg_none_of X G n_len), (PySem.W.mg_none_of X G n_abs), (PySem.W.mg_none_of X G n_int), (PySem.W.mg_none_of X G n_sorted), (PySem.W.mg_none_of X G n_str), (PySem.W.mg_none_of X G n_range), (PySem.W.mg_none_of X G n_isinstance), (PySem.W.mg_none_of X G n_list)⟩
  exact ⟨T.d_law, fun s v => .of_eq rfl, fun base _ _ => ok_law T⟩
end My
open PySem PySem.W PyProof.Rows
set_option maxHeartbeats 0 in
theorem PySem.Challenge.cw_majordomo_k68_pending_tasks_holds : PySem.Challenge.rw_majordomo_k68_pending_tasks.Holds := by
  w_on; o_law; k_head; (case hw => w_witness2)
  k_fill
  refine L2.walk_of (l := PySem.Challenge.rw_majordomo_k68_pending_tasks) (n := 63) (k := 4) (x := "script") (CX := (fun _ => L2.CX0)) (sp := fun w => My.sp_law _) rfl (by decide) rfl ⟨rfl, by decide, by decide⟩ (fun w h Y => PySem.W.kIn_of Y) ?F (fun _ _ a ns hl _ hS => ⟨a, ns, rfl, hS, hl, fun _ => rfl⟩) (fun _ _ _ _ _ h => h)
  case F =>
    intro w mg fa h KX G hmg
    refine' My.all_mk KX G hmg ?g_pending_tasks ?l_pending_tasks ?c_pending_tasks ?k_pending_tasks ?g__is_pending ?l__is_pending ?c__is_pending ?k__is_pending ?g__law_number ?l__law_number ?c__law_number ?k__law_number ?g__law_digits ?l__law_digits ?c__law_digits ?k__law_digits ?g__law_entry ?l__law_entry ?c__law_entry ?k__law_entry ?g_law ?l_law ?c_law ?k_law ?c_STATE ?c_STOP ?n_len ?n_abs ?n_int ?n_sorted ?n_str ?n_range ?n_isinstance ?n_list
    (case g_pending_tasks => k_is); (case l_pending_tasks => k_is); (case c_pending_tasks => k_is); (case k_pending_tasks => k_is); (case g__is_pending => k_is); (case l__is_pending => k_is); (case c__is_pending => k_is); (case k__is_pending => k_is); (case g__law_number => k_is); (case l__law_number => k_is); (case c__law_number => k_is); (case k__law_number => k_is); (case g__law_digits => k_is); (case l__law_digits => k_is); (case c__law_digits => k_is); (case k__law_digits => k_is); (case g__law_entry => k_is); (case l__law_entry => k_is); (case c__law_entry => k_is); (case k__law_entry => k_is); (case g_law => k_is); (case l_law => k_is); (case c_law => k_is); (case k_law => k_is); (case c_STATE => k_is); (case c_STOP => k_is); (case n_len => k_is); (case n_abs => k_is); (case n_int => k_is); (case n_sorted => k_is); (case n_str => k_is); (case n_range => k_is); (case n_isinstance => k_is); (case n_list => k_is)

