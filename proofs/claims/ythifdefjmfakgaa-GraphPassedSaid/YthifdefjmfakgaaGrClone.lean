/-
  Clone of a graph: a graph of its own, of the same ops; lines, and what takes them back, both share.
  No conditions but sizes.
-/
import Derived.Test.YthifdefjmfakgaaSh
import Derived.Test.YthifdefjmfakgaaGrCopy
set_option maxRecDepth 100000
set_option maxHeartbeats 8000000
namespace Go.Proofs.Ythifdefjmfakgaa
open Go.RowKit
open Tm (Sp Tr has put cut kids)
theorem own_base0 {w:World} {B k n:Nat} {v:Value} {xs:List Value} {E:TypeId} (h:w.ownsRow B E k v n xs):w.ownsRow 0 E k v n xs:=by
 obtain ⟨h1,h2 | ⟨g,cap,cur,hv,_,h4⟩⟩:=h
 ·exact ⟨h1,Or.inl h2⟩
 ·exact ⟨h1,Or.inr ⟨g,cap,cur,hv,Nat.zero_le _,h4⟩⟩
theorem own_belowC {w w':World} {B k n:Nat} {v:Value} {xs:List Value} {E:TypeId} (h:w.ownsRow B E k v n xs) (hb:Below w.heap.size w w'):w'.ownsRow B E k v n xs:=(Turns.of_below (F:=fun _=>False) hb).own h fun _ _ h=>h
theorem Tm.up_of {T U:Tr} (h:∀ n,Tm.look U n=Tm.look T n) {n:Qm.St} {l:List Qm.St} (hu:Tm.Up T n l):Tm.Up U n l:=by
 induction hu with
 | stop h1=>exact .stop ((h _).trans h1)
 | step h1 _ ih=>exact .step ((h _).trans h1) ih
theorem Tm.Ok.perm {T U:Tr} (h:Tm.Ok T) (hp:U.Perm T):Tm.Ok U:=by
 have hl:=Tm.look_perm h.nd hp
 refine ⟨(hp.map Prod.fst).nodup_iff.2 h.nd,fun e he=>h.node e (hp.mem_iff.1 he),fun e he=>h.sp e (hp.mem_iff.1 he),fun e he=>?_,fun n=>?_⟩
 ·have h1:=h.par e (hp.mem_iff.1 he)
  unfold Tm.has at h1 ⊢
  rw [hl]; exact h1
 ·obtain ⟨l,h1⟩:=h.up n
  exact ⟨l,Tm.up_of hl h1⟩
theorem lookL_perm {L M:Lk} (nd:(L.map Prod.fst).Nodup) (h:M.Perm L) (n:Qm.St):lookL M n=lookL L n:=by
 have nu:(M.map Prod.fst).Nodup:=(h.map Prod.fst).nodup_iff.2 nd
 cases e:lookL M n with
 | some s=>exact (lookL_some nd (h.mem_iff.1 (lookL_mem e))).symm
 | none =>
  cases e2:lookL L n with
  | none=>rfl
  | some s=>rw [lookL_some nu (h.mem_iff.2 (lookL_mem e2))] at e; cases e
def sharedC (χ:Nat→Nat):Nat→Nat:=fun k=>if χ k=6 then 6 else 0
theorem shared_yes {χ:Nat→Nat} {k:Nat} (h:χ k=6):sharedC χ k=6:=if_pos h
theorem shared_or {χ:Nat→Nat} (k:Nat):(χ k=6∧sharedC χ k=6)∨sharedC χ k=0:=by
 unfold sharedC
 by_cases h:χ k=6
 ·exact Or.inl ⟨h,if_pos h⟩
 ·exact Or.inr (if_neg h)
abbrev CpT:=Nat × Nat × Nat × Tr × List Kid
structure Cp (w:World) (X:Gx) (χ:Nat→Nat) (a b:Option (Option Addr × Nat)) (t:Option CpT) (m1 m2:Option Nat) (χ2:Nat→Nat) (W:World):Prop where
 bel:Below w.heap.size w W
 lt:∀ k,χ2 k≠0→k<W.heap.size
 old:∀ k,k<w.heap.size→χ2 k=sharedC χ k
 ra:∀ p c,a=some (p,c)→W.ownsRow 0 78 1 (.slice p X.ls.length c) X.ls.length (X.ls.map fun e=>ptV e.2)∧∀ k,(Value.slice p X.ls.length c).ownBlock=some k→χ2 k=2
 rb:∀ p c,b=some (p,c)→W.ownsRow 0 84 1 (.slice p X.us.length c) X.us.length (X.us.map Uk.val)∧∀ k,(Value.slice p X.us.length c).ownBlock=some k→χ2 k=3
 tr:∀ x:CpT,t=some x→x.2.2.2.1.Perm X.T∧Lay W x.1 x.2.1 x.2.2.1 x.2.2.2.1 x.2.2.2.2 (fun k=>χ2 k=4)
 n1:∀ M,m1=some M→SMap W M []∧χ2 M=5
 n2:∀ M,m2=some M→SMap W M []∧χ2 M=5
 ne:∀ M N,m1=some M→m2=some N→M≠N
def CpE (w:World) (X:Gx) (χ:Nat→Nat) (a b:Option (Option Addr × Nat)) (t:Option CpT) (m1 m2:Option Nat) (W:World):Prop:=∃ χ2,Cp w X χ a b t m1 m2 χ2 W
section
variable {w W W':World} {X:Gx} {χ χ2:Nat→Nat} {a b:Option (Option Addr × Nat)} {t:Option CpT} {m1 m2:Option Nat}
theorem Cp.start (h:Grf w X χ):Cp w X χ none none none none none (sharedC χ) w :=
 ⟨Below.refl _ _,fun k hk=>by
  rcases shared_or (χ:=χ) k with ⟨h1,-⟩ | h1
  ·exact h.lt k (by rw [h1]; decide)
  ·exact absurd h1 hk,fun _ _=>rfl,fun _ _ h=>(by cases h),fun _ _ h=>(by cases h),fun _ h=>(by cases h),fun _ h=>(by cases h),fun _ h=>(by cases h),fun _ _ h=>(by cases h)⟩
theorem Cp.grow (h:Cp w X χ a b t m1 m2 χ2 W) (hb:Below W.heap.size W W') (c:Nat):Cp w X χ a b t m1 m2 (grown χ2 W W' c) W':=by
 have ho:∀ {k d:Nat},χ2 k=d→d≠0→grown χ2 W W' c k=d:=fun {k d} h1 h2=>(grown_old h.lt (by rw [h1]; exact h2)).trans h1
 refine ⟨h.bel.trans (hb.mono h.bel.size),fun k hk=>grown_lt hb.size hk,fun k hk=>?_,fun p c e=>⟨own_belowC (h.ra p c e).1 hb,fun k hk=>ho ((h.ra p c e).2 k hk) (by decide)⟩,fun p c e=>⟨own_belowC (h.rb p c e).1 hb,fun k hk=>ho ((h.rb p c e).2 k hk) (by decide)⟩,
  fun x e=>⟨(h.tr x e).1,((h.tr x e).2.kept hb).more (fun k hk=>ho hk (by decide)) fun k hk=>grown_lt hb.size (by rw [hk]; decide)⟩,fun M e=>⟨(h.n1 M e).1.below hb,ho (h.n1 M e).2 (by decide)⟩,fun M e=>⟨(h.n2 M e).1.below hb,ho (h.n2 M e).2 (by decide)⟩,h.ne⟩
 have h1:=h.bel.size
 unfold grown
 rw [if_pos (by omega)]
 exact h.old k hk
theorem CpE.bel (h:CpE w X χ a b t m1 m2 W):Below w.heap.size w W:=by
 obtain ⟨χ2,h⟩:=h
 exact h.bel
theorem CpE.lines (h:CpE w X χ none b t m1 m2 W) (hg:Grf w X χ) {p:Option Addr} {c:Nat} (hpo:X.po=.slice p X.ls.length c) :
  Calls Try.prog 30 #[.slice p X.ls.length c] W fun e W'=>∃ q d,e=.returned (.slice q X.ls.length d)∧CpE w X χ (some (q,d)) b t m1 m2 W':=by
 obtain ⟨χ2,h⟩:=h
 have h1:=own_belowC hg.ro h.bel
 rw [hpo] at h1
 obtain ⟨p',c',hv,hrd,-,-,hpn,-⟩:=own_rd h1
 cases hv
 refine (copyL_any p c X.ls.length _ W (List.length_map _) hrd hpn (fun u hu=>by obtain ⟨e,-,rfl⟩:=List.mem_map.1 hu; rfl) (by have:=hg.few; omega)).mono ?_
 rintro e W' ⟨q,d,rfl,ho,hb⟩
 have h2:=h.grow hb 2
 refine ⟨q,d,rfl,_,h2.bel,h2.lt,h2.old,fun p c e=>?_,h2.rb,h2.tr,h2.n1,h2.n2,h2.ne⟩
 cases e
 exact ⟨own_base0 ho,fun k hk=>grown_new (World.ownsRow.lt ho k hk).1 (World.ownsRow.lt ho k hk).2⟩
theorem CpE.undos (h:CpE w X χ a none t m1 m2 W) (hg:Grf w X χ) {p:Option Addr} {c:Nat} (hpu:X.pu=.slice p X.us.length c) :
  Calls Try.prog 31 #[.slice p X.us.length c] W fun e W'=>∃ q d,e=.returned (.slice q X.us.length d)∧CpE w X χ a (some (q,d)) t m1 m2 W':=by
 obtain ⟨χ2,h⟩:=h
 have h1:=own_belowC hg.ru h.bel
 rw [hpu] at h1
 obtain ⟨p',c',hv,hrd,-,-,hpn,-⟩:=own_rd h1
 cases hv
 refine (copyU_any p c X.us.length _ W (List.length_map _) hrd hpn (fun u hu=>by obtain ⟨e,-,rfl⟩:=List.mem_map.1 hu; cases e <;> rfl) (by have:=hg.few; have:=hg.fewer; omega)).mono ?_
 rintro e W' ⟨q,d,rfl,ho,hb⟩
 have h2:=h.grow hb 3
 refine ⟨q,d,rfl,_,h2.bel,h2.lt,h2.old,h2.ra,fun p c e=>?_,h2.tr,h2.n1,h2.n2,h2.ne⟩
 cases e
 exact ⟨own_base0 ho,fun k hk=>grown_new (World.ownsRow.lt ho k hk).1 (World.ownsRow.lt ho k hk).2⟩
theorem CpE.tree (h:CpE w X χ a b none m1 m2 W) (hg:Grf w X χ) :
  Calls Try.prog 32 #[ptV X.P] W fun e W'=>∃ x:CpT,e=.returned (ptV x.1)∧CpE w X χ a b (some x) m1 m2 W':=by
 obtain ⟨χ2,h⟩:=h
 refine (clone_any W (hg.tree.kept h.bel) hg.toCore.par).mono ?_
 rintro e W' ⟨P,M1,M2,U,C,rfl,hp,hl,hb⟩
 have h2:=h.grow hb 4
 refine ⟨(P,M1,M2,U,C),rfl,_,h2.bel,h2.lt,h2.old,h2.ra,h2.rb,fun x e=>?_,h2.n1,h2.n2,h2.ne⟩
 cases e
 exact ⟨hp,hl.more (fun k hk=>grown_new hk.1 hk.2) fun k hk=>grown_lt hb.size (by rw [hk]; decide)⟩
theorem CpE.map1 (h:CpE w X χ a b t none m2 W):CpE w X χ a b t (some W.heap.size) m2 (W.alloc (.map #[] 0)):=by
 obtain ⟨χ2,h⟩:=h
 have h2:=h.grow (W':=W.alloc (.map #[] 0)) ((Below.refl _ _).alloc (Nat.le_refl _) _) 5
 refine ⟨_,h2.bel,h2.lt,h2.old,h2.ra,h2.rb,h2.tr,fun M e=>?_,h2.n2,fun M N e1 e2=>?_⟩
 ·cases e
  exact ⟨SMap.made W,grown_new (Nat.le_refl _) (by simp)⟩
 ·cases e1
  have:=h.lt N (by rw [(h.n2 N e2).2]; decide)
  omega
theorem CpE.map2 (h:CpE w X χ a b t m1 none W):CpE w X χ a b t m1 (some W.heap.size) (W.alloc (.map #[] 0)):=by
 obtain ⟨χ2,h⟩:=h
 have h2:=h.grow (W':=W.alloc (.map #[] 0)) ((Below.refl _ _).alloc (Nat.le_refl _) _) 5
 refine ⟨_,h2.bel,h2.lt,h2.old,h2.ra,h2.rb,h2.tr,h2.n1,fun M e=>?_,fun M N e1 e2=>?_⟩
 ·cases e
  exact ⟨SMap.made W,grown_new (Nat.le_refl _) (by simp)⟩
 ·cases e2
  have:=h.lt M (by rw [(h.n1 M e1).2]; decide)
  omega
theorem wp_makeMapG {w:World} {o:Oper} {a:Act} {K:Act→World→Prop} {Q:Exit→Act→World→Prop} (t:TypeId) (ho:o.op=.makeMap t none)
  (h:K (a.put o.dst (.map (some w.heap.size))) (w.alloc (.map #[] 0))):Oper.wp Try.prog o a w K Q:=by
 unfold Oper.wp execOp
 simp only [ho,Option.map_none,Sem.run_bind,Sem.run_pure,Result.andThen_ok,run_makeMap]
 exact h
theorem wp_box_state {w:World} {o:Oper} {a:Act} {K:Act→World→Prop} {Q:Exit→Act→World→Prop} (x:Operand) (ho:o.op=.box 70 x) (A:Array Value) (hx:a.eval x=.agg A)
  (h:K (a.put o.dst (ptV w.heap.size)) (w.alloc (.cells A 70))):Oper.wp Try.prog o a w K Q:=by
 have hr:(Instr.box 70 (.agg A)).run Try.prog w=.ok (ptV w.heap.size) (w.alloc (.cells A 70)):=by rfl
 unfold Oper.wp execOp
 simp only [ho,Sem.run_bind,Sem.run_pure,Result.andThen_ok,hx,hr]
 exact h
end
theorem CpE.wpMap1 {w W:World} {X:Gx} {χ:Nat→Nat} {a b:Option (Option Addr × Nat)} {t:Option CpT} {m2:Option Nat} {o:Oper} {c:Act} {K:Act→World→Prop} {Q:Exit→Act→World→Prop} (h:CpE w X χ a b t none m2 W) (ty:TypeId) (ho:o.op=.makeMap ty none)
  (hk:∀ m W',CpE w X χ a b t (some m) m2 W'→K (c.put o.dst (.map (some m))) W'):Oper.wp Try.prog o c W K Q:=wp_makeMapG ty ho (hk _ _ h.map1)
theorem CpE.wpMap2 {w W:World} {X:Gx} {χ:Nat→Nat} {a b:Option (Option Addr × Nat)} {t:Option CpT} {m1:Option Nat} {o:Oper} {c:Act} {K:Act→World→Prop} {Q:Exit→Act→World→Prop} (h:CpE w X χ a b t m1 none W) (ty:TypeId) (ho:o.op=.makeMap ty none)
  (hk:∀ m W',CpE w X χ a b t m1 (some m) W'→K (c.put o.dst (.map (some m))) W'):Oper.wp Try.prog o c W K Q:=wp_makeMapG ty ho (hk _ _ h.map2)
theorem exec_build_state {o:Oper} {a:Act} {w:World} (x1 x2 x3 x4 x5:Operand) (ho:o.op=.build 70 #[(1,x1),(2,x2),(3,x3),(4,x4),(5,x5)]) (p q:Option Addr) (n1 c1 n2 c2 P m1 m2:Nat)
  (h1:a.eval x1=.slice p n1 c1) (h2:a.eval x2=.slice q n2 c2) (h3:a.eval x3=ptV P) (h4:a.eval x4=.map (some m1)) (h5:a.eval x5=.map (some m2)) :
  (execOp a.eval o).run Try.prog w=.ok (.value (.agg #[.int .i32 0,.int .u32 0,.slice p n1 c1,.slice q n2 c2,ptV P,.map (some m1),.map (some m2)])) w:=by
 have hr:(Instr.build 70 #[(1,.slice p n1 c1),(2,.slice q n2 c2),(3,ptV P),(4,.map (some m1)),(5,.map (some m2))]).run Try.prog w=.ok (.agg #[.int .i32 0,.int .u32 0,.slice p n1 c1,.slice q n2 c2,ptV P,.map (some m1),.map (some m2)]) w:=by kernel_rfl
 unfold execOp
 simp only [ho,Sem.run_bind,Sem.run_pure,Result.andThen_ok,List.map_toArray,List.map_cons,List.map_nil,h1,h2,h3,h4,h5,hr]
structure Ot (w:World) (X:Gx) (χ:Nat→Nat) (O:Gx) (χ2:Nat→Nat) (W:World):Prop where
 bel:Below w.heap.size w W
 lt:∀ k,χ2 k≠0→k<W.heap.size
 old:∀ k,k<w.heap.size→χ2 k=sharedC χ k
 at_:AgAt W O.b O.cells
 cb:χ2 O.b=1
 ro:W.ownsRow 0 78 1 O.po O.ls.length (O.ls.map fun e=>ptV e.2)
 co:∀ k,O.po.ownBlock=some k→χ2 k=2
 ru:W.ownsRow 0 84 1 O.pu O.us.length (O.us.map Uk.val)
 cu:∀ k,O.pu.ownBlock=some k→χ2 k=3
 tree:Lay W O.P O.M1 O.M2 O.T O.C (fun k=>χ2 k=4)
 ms:Ms W O.M3 O.M4 O.L O.D (fun k=>χ2 k=5)
 ls:O.ls=X.ls
 us:O.us=X.us
 tp:O.T.Perm X.T
 lk:O.lk=0
section
variable {w W W':World} {X O:Gx} {χ χ2:Nat→Nat}
def cpO (X:Gx) (W:World) (q1 q2:Option Addr) (d1 d2:Nat) (x:CpT) (m1 m2:Nat):Gx:=⟨0,W.heap.size,.slice q1 X.ls.length d1,X.ls,.slice q2 X.us.length d2,X.us,x.1,x.2.1,x.2.2.1,x.2.2.2.1,x.2.2.2.2,m1,m2,[],[]⟩
theorem CpE.boxed {q1 q2:Option Addr} {d1 d2 m1 m2:Nat} {x:CpT} (h:CpE w X χ (some (q1,d1)) (some (q2,d2)) (some x) (some m1) (some m2) W) :
  ∃ χ2,Ot w X χ (cpO X W q1 q2 d1 d2 x m1 m2) χ2 (W.alloc (.cells (cpO X W q1 q2 d1 d2 x m1 m2).cells 70)):=by
 obtain ⟨χ2,h0⟩:=h
 have h:=h0.grow (W':=W.alloc (.cells (cpO X W q1 q2 d1 d2 x m1 m2).cells 70)) ((Below.refl _ _).alloc (Nat.le_refl _) _) 1
 obtain ⟨r1,r2⟩:=h.ra _ _ rfl
 obtain ⟨r3,r4⟩:=h.rb _ _ rfl
 obtain ⟨r5,r6⟩:=h.tr _ rfl
 obtain ⟨r7,r8⟩:=h.n1 _ rfl
 obtain ⟨r9,r10⟩:=h.n2 _ rfl
 exact ⟨_,h.bel,h.lt,h.old,AgAt.new _ _ _,grown_new (Nat.le_refl _) (by show W.heap.size<_; simp),r1,r2,r3,r4,r6,⟨⟨r7,r9,fun _ h=>(by cases h),r8,r10,fun _ h=>(by cases h),h.ne _ _ rfl rfl,fun _ h=>(by cases h),List.nodup_nil,fun k hk=>h.lt k (by rw [hk]; decide)⟩,fun _ h=>(by cases h),fun _ _ h=>(by cases h)⟩,rfl,rfl,r5,rfl⟩
theorem CpE.wpBox {q1 q2:Option Addr} {d1 d2 m1 m2:Nat} {x:CpT} {o:Oper} {c:Act} {y:Operand} {K:Act→World→Prop} {Q:Exit→Act→World→Prop} (h:CpE w X χ (some (q1,d1)) (some (q2,d2)) (some x) (some m1) (some m2) W) (ho:o.op=.box 70 y)
  (hx:c.eval y=.agg #[.int .i32 0,.int .u32 0,.slice q1 X.ls.length d1,.slice q2 X.us.length d2,ptV x.1,.map (some m1),.map (some m2)])
  (hk:∀ O χ2 W',Ot w X χ O χ2 W'→O.L=[]→K (c.put o.dst (ptV O.b)) W'):Oper.wp Try.prog o c W K Q:=by
 obtain ⟨χ2,h2⟩:=h.boxed
 exact wp_box_state y ho _ hx (hk _ χ2 _ h2 rfl)
theorem Ot.far (h:Ot w X χ O χ2 W) {k c:Nat} (hk:χ2 k=c) (h1:1≤c) (h5:c≤5):w.heap.size≤k:=by
 by_cases hl:k<w.heap.size
 ·rw [h.old k hl] at hk
  rcases shared_or (χ:=χ) k with ⟨-,h2⟩ | h2 <;> omega
 ·omega
theorem Ot.turns {G:Nat→Prop} (h:Ot w X χ O χ2 W) (ht:Turns G W W') (hd:∀ k,χ2 k≠0→¬ G k) (hw:∀ k,k<w.heap.size→¬ G k):Ot w X χ O χ2 W' :=
 ⟨h.bel.trans (ht.below (fun k _ hk=>by
   by_cases hl:k<w.heap.size
   ·exact absurd hk (hw k hl)
   ·omega) h.bel.size),fun k hk=>Nat.lt_of_lt_of_le (h.lt k hk) ht.size,h.old,h.at_.block (ht.block _ (AgAt.lt h.at_) (hd _ (by rw [h.cb]; decide))),h.cb,ht.own h.ro (fun k hk=>hd k (by rw [h.co k hk]; decide)),h.co,ht.own h.ru (fun k hk=>hd k (by rw [h.cu k hk]; decide)),h.cu,
  h.tree.turns ht (fun k hk=>hd k (by rw [hk]; decide)),h.ms.turns ht (fun k hk=>hd k (by rw [hk]; decide)),h.ls,h.us,h.tp,h.lk⟩
theorem Ot.kept (h:Ot w X χ O χ2 W) (hb:Below W.heap.size W W'):Ot w X χ O χ2 W':=h.turns (Turns.of_below (F:=fun _=>False) hb) (fun _ _ h=>h) fun _ _ h=>h
theorem Ot.turned (h:Ot w X χ O χ2 W) {n q:Qm.St} {e:Ending} (ht:Turned O.M3 O.M4 O.L (fun k=>χ2 k=5) n q W e W') (hn:lookL O.L n=none) (hq:q≠(0,0)) :
  ∃ D,Ot w X χ { O with L:=O.L ++ [(n,q)],D:=D } (grown χ2 W W' 5) W':=by
 obtain ⟨-,D,hm,ht⟩:=ht
 have hl:turnL O.L n q=O.L ++ [(n,q)]:=by
  unfold turnL
  rw [if_neg hq,cutL_none (by rw [hn]; rfl)]
 rw [hl] at hm
 have hz:=ht.size
 have ho:∀ {k d:Nat},χ2 k=d→d≠0→grown χ2 W W' 5 k=d:=fun {k d} h1 h2=>(grown_old h.lt (by rw [h1]; exact h2)).trans h1
 refine ⟨D,h.bel.trans (ht.below (fun k _ hk=>h.far hk (by decide) (by decide)) h.bel.size),fun k hk=>grown_lt hz hk,fun k hk=>?_,h.at_.block (ht.block _ (AgAt.lt h.at_) (by rw [h.cb]; decide)),ho h.cb (by decide),ht.own h.ro (fun k hk=>by rw [h.co k hk]; decide),fun k hk=>ho (h.co k hk) (by decide),
  ht.own h.ru (fun k hk=>by rw [h.cu k hk]; decide),fun k hk=>ho (h.cu k hk) (by decide),(h.tree.turns ht fun k hk=>by rw [hk]; decide).more (fun k hk=>ho hk (by decide)) (fun k hk=>grown_lt hz (by rw [hk]; decide)),hm.more (fun k hk=>?_) (fun k hk=>grown_lt hz (by rw [hk]; decide)),h.ls,h.us,h.tp,h.lk⟩
 ·have h1:=h.bel.size
  unfold grown
  rw [if_pos (by omega)]
  exact h.old k hk
 ·rcases hk with hk | hk
  ·exact ho hk (by decide)
  ·exact grown_new hk.1 hk.2
theorem Ot.grf (h:Ot w X χ O χ2 W) (hg:Grf w X χ) (hp:O.L.Perm X.L):Grf W O χ2:=by
 have e1:O.ops=X.ops:=by unfold Gx.ops; rw [h.ls]
 have h6:∀ k,χ k=6→χ2 k=6∧W.heap[k]?=w.heap[k]?:=fun k hk=>by
  have hl:=hg.lt k (by rw [hk]; decide)
  exact ⟨(h.old k hl).trans (shared_yes hk),h.bel.block k hl⟩
 refine ⟨?_,by rw [h.us,h.ls]; exact hg.fewer,fun i u x hu hx=>?_⟩
 ·rw [e1,h.us]
  refine ⟨h.lt,h.at_,h.cb,h.ro,h.co,h.ru,h.cu,h.tree,h.ms,fun e he=>?_,hg.tk.perm h.tp,fun n=>(Tm.look_perm hg.tk.nd h.tp n).trans (hg.hs n),fun n=>(lookL_perm hg.ms.nd hp n).trans (hg.hm n),hg.good,by rw [e1]; exact hg.ops,by rw [h.ls]; exact hg.few,fun n hn=>by rw [h.ls]; exact hg.dom n hn⟩
  rw [h.ls] at he
  obtain ⟨k1,k2⟩:=hg.ln e he
  exact ⟨(h6 _ k1).1,k2.block (h6 _ k1).2⟩
 ·rw [e1] at hx ⊢
  rw [h.us] at hu
  exact (hg.un i u x hu hx).keep h6
end
def GCloned (gg:Nat) (ops:List Pm.Wr) (χ:Nat→Nat) (w:World) (e:Ending) (w':World):Prop :=
 ∃ hh χ1 χ2,e=.returned (ptV hh)∧Gra w' gg ops χ1∧Goes w χ w' χ1∧Gra w' hh ops χ2∧(∀ k,χ2 k≠0→(χ1 k=6∧χ2 k=6)∨(χ1 k=0∧w.heap.size≤k))∧w.heap.size≤hh∧χ1 hh=0
theorem cloned_of {gg:Nat} {ops:List Pm.Wr} {χ χ1 χ2:Nat→Nat} {w w0 W w5:World} {X O:Gx} (hg:Grf w0 X χ1) (hl:X.lk=0) (ho:X.ops=ops) (ha:AgAt w0 gg #[ptV X.b]) (hz:χ1 gg=0∨χ1 gg=6) (hgo:Goes w χ w0 χ1) (h:Ot w0 X χ1 O χ2 W) (hp:O.L.Perm X.L)
  (h5:w5=W.alloc (.cells #[ptV O.b] 72)):GCloned gg ops χ w (.returned (ptV W.heap.size)) w5:=by
 have hb:Below W.heap.size W w5:=by rw [h5]; exact (Below.refl _ _).alloc (Nat.le_refl _) _
 have hb0:Below w0.heap.size w0 w5:=h.bel.trans (hb.mono h.bel.size)
 have hz1:∀ k,w0.heap.size≤k→χ1 k=0:=fun k hk=>by
  cases e:χ1 k with
  | zero=>rfl
  | succ n=>exact absurd (hg.lt k (by rw [e]; omega)) (by omega)
 refine ⟨_,χ1,χ2,rfl,?_,hgo.trans (Goes.of_below hb0),?_,fun k hk=>?_,Nat.le_trans hgo.turns.size h.bel.size,hz1 _ h.bel.size⟩
 ·rw [← ho]
  exact gra_of (hg.kept hb0) hl (ha.kept hb0) hz
 ·have e1:O.ops=ops:=by rw [← ho]; unfold Gx.ops; rw [h.ls]
  rw [← e1]
  refine gra_of ((h.grf hg hp).kept hb) h.lk (by rw [h5]; exact AgAt.new _ _ _) (Or.inl ?_)
  cases e:χ2 W.heap.size with
  | zero=>rfl
  | succ n=>exact absurd (h.lt W.heap.size (by rw [e]; omega)) (by omega)
 ·by_cases hl0:k<w0.heap.size
  ·rw [h.old k hl0] at hk ⊢
   rcases shared_or (χ:=χ1) k with h1 | h1
   ·exact Or.inl h1
   ·exact absurd h1 hk
  ·have:=hgo.turns.size
   exact Or.inr ⟨hz1 k (by omega),by omega⟩
structure OtI (w:World) (X:Gx) (χ:Nat→Nat) (r ob:Nat) (O:Gx) (χ2:Nat→Nat) (left:Lk) (wr:World):Prop where
 ot:Ot w X χ O χ2 wr
 it:SIt wr r X.M3 (masts X.L) (masts left)
 all:(O.L ++ left).Perm X.L
 fr:χ2 r=0
 ge:w.heap.size≤r
 ob:O.b=ob
theorem gclone_any {gg:Nat} {ops:List Pm.Wr} {χ:Nat→Nat} (w:World) (h:Gra w gg ops χ):Calls Try.prog 13 #[ptV gg] w (GCloned gg ops χ w):=by
 have HC:=Hi h
 obtain ⟨b0,hgb⟩:∃ b,AgAt w gg #[ptV b]:=by
  obtain ⟨⟨X,h1,-⟩,-⟩:=h
  exact ⟨_,h1⟩
 clear h
 go_enter Try.func13,Try.ntmps13
 go_wp2_with fail
 refine (gours_any _ hgb).mono ?_
 rintro e w1 ⟨rfl,rfl⟩
 clear hgb
 go_wp2_with fail
 refine (gnow_any w HC.out).mono ?_
 rintro e w1 ⟨X,χ1,rfl,hg,hf,hl,ho,ha,hgg,hgo⟩
 have hbd:=Below.drew (Below.refl w1.heap.size w1)
 have HG:=Hi (hg.kept hbd)
 have HF:=Hi (show X.lk=0∧X.ops=ops∧AgAt w1.drew gg #[ptV X.b]∧(χ1 gg=0∨χ1 gg=6)∧Goes w χ w1.drew χ1 from ⟨hl,ho,ha.kept hbd,by rw [hgg]; exact HC.out.gz,hgo.trans (Goes.of_below hbd)⟩)
 obtain ⟨po,co,hpo,-⟩:=own_sliceG hg.ro
 obtain ⟨pu,cu,hpu,-⟩:=own_sliceG hg.ru
 have HPO:=Hi hpo
 have HPU:=Hi hpu
 clear hg hf hl ho ha hgg hgo hbd hpo hpu HC
 go_upto_region 4 with fail
 go_cut [4] (fun s4 wx=>∃ O χ3,s4=ptV O.b∧Ot w1.drew X χ1 O χ3 wx∧O.L=[])
 case first =>
  refine wp_region_held_drew (S:=fun W=>Below w1.drew.heap.size w1.drew W) (by kernel_rfl) (Below.refl _ _) (fun hS=>?_)
  generalize w1.drew=wd at *
  have H0:=Hi (show CpE wd X χ1 none none none none none wd from ⟨_,Cp.start HG.out⟩)
  refine tX 0 rfl hS ?_
  refine tX 1 rfl hS ?_
  refine tX 2 rfl hS ?_
  refine tK 3 (v:=?_) rfl ?_ hS ?_
  rotate_left
  ·intro W hSW
   have y:=(HG.out.kept hSW).cO
   rw [HPO.out] at y
   go_simp
   all_goals with_reducible rfl
  go_simp
  refine tX 5 rfl hS ?_
  refine tX 6 rfl hS ?_
  refine tX 7 rfl hS ?_
  refine tK 8 (v:=?_) rfl ?_ hS ?_
  rotate_left
  ·intro W hSW
   have y:=(HG.out.kept hSW).cU
   rw [HPU.out] at y
   go_simp
   all_goals with_reducible rfl
  go_simp
  refine tX 10 rfl hS ?_
  refine tX 11 rfl hS ?_
  refine tX 12 rfl hS ?_
  refine tK 13 (v:=?_) rfl ?_ hS ?_
  rotate_left
  ·intro W hSW
   have y:=(HG.out.kept hSW).cP
   go_simp
   all_goals with_reducible rfl
  go_simp
  refine wpAnyH_ready (rs:=[4,15,16]) (by kernel_rfl) (by simp) ?_
  refine AllReadyH.cons rfl (fun K hK=>?_) (AllReadyH.cons rfl (fun K hK=>?_) (AllReadyH.cons rfl (fun K hK=>?_) AllReadyH.nil))
  ·go_simp
   go_wp2_with ((go_at_call 30; refine (CpE.lines H0.out HG.out HPO.out).mono ?_; rintro e wn ⟨q1,d1,rfl,hcp⟩))
   have H1:=Hi hcp
   refine hK.out _ _ H1.out.bel (fun hS=>?_)
   clear hK K hcp
   refine wpAnyH_ready (rs:=[9,15,16]) (by kernel_rfl) (by simp) ?_
   refine AllReadyH.cons rfl (fun K hK=>?_) (AllReadyH.cons rfl (fun K hK=>?_) (AllReadyH.cons rfl (fun K hK=>?_) AllReadyH.nil))
   ·go_simp
    go_wp2_with ((go_at_call 31; refine (CpE.undos H1.out HG.out HPU.out).mono ?_; rintro e wn ⟨q2,d2,rfl,hcp⟩))
    have H2:=Hi hcp
    refine hK.out _ _ H2.out.bel (fun hS=>?_)
    clear hK K hcp
    refine wpAnyH_ready (rs:=[14,15,16]) (by kernel_rfl) (by simp) ?_
    refine AllReadyH.cons rfl (fun K hK=>?_) (AllReadyH.cons rfl (fun K hK=>?_) (AllReadyH.cons rfl (fun K hK=>?_) AllReadyH.nil))
    ·go_simp
     go_wp2_with ((go_at_call 32; refine (CpE.tree H2.out HG.out).mono ?_; rintro e wn ⟨xt,rfl,hcp⟩))
     have H3:=Hi hcp
     refine hK.out _ _ H3.out.bel (fun hS=>?_)
     clear hK K hcp
     refine wpAnyH_ready (rs:=[15,16]) (by kernel_rfl) (by simp) ?_
     refine AllReadyH.cons rfl (fun K hK=>?_) (AllReadyH.cons rfl (fun K hK=>?_) AllReadyH.nil)
     ·refine step_of (by kernel_rfl) ?_
      refine H3.out.wpMap1 _ rfl (fun m1 wx hcp=>?_)
      have H4:=Hi hcp
      refine hK.out _ _ H4.out.bel (fun hS=>?_)
      clear hK K hcp
      refine rD 16 rfl (fun K hK=>?_)
      refine step_of (by kernel_rfl) ?_
      refine H4.out.wpMap2 _ rfl (fun m2 wx hcp=>?_)
      have H5:=Hi hcp
      refine hK.out _ _ H5.out.bel (fun hS=>?_)
      clear hK K hcp
      refine tK 17 (v:=.agg #[.int .i32 0,.int .u32 0,.slice q1 X.ls.length d1,.slice q2 X.us.length d2,ptV xt.1,.map (some m1),.map (some m2)]) rfl (fun W hSW=>exec_build_state _ _ _ _ _ rfl q1 q2 _ d1 _ d2 xt.1 m1 m2 rfl rfl rfl rfl rfl) hS ?_
      go_simp
      refine rD 18 rfl (fun K hK=>?_)
      refine step_of (by kernel_rfl) ?_
      refine H5.out.wpBox rfl rfl (fun O χ3 wx hot hL=>?_)
      have HOT:=Hi (And.intro hot hL)
      refine hK.out _ _ HOT.out.1.bel (fun hS=>?_)
      clear hK K hot hL
      refine tX 19 rfl hS ?_
      go_simp
      refine wpAnyH_done (by kernel_rfl) ?_ _
      go_simp
      clear hS
      go_wp2
      go_meet
      case rel=>exact ⟨O,χ3,rfl,HOT.out.1,HOT.out.2⟩
     ·refine step_of (by kernel_rfl) ?_
      refine H3.out.wpMap2 _ rfl (fun m2 wx hcp=>?_)
      have H4:=Hi hcp
      refine hK.out _ _ H4.out.bel (fun hS=>?_)
      clear hK K hcp
      refine rD 15 rfl (fun K hK=>?_)
      refine step_of (by kernel_rfl) ?_
      refine H4.out.wpMap1 _ rfl (fun m1 wx hcp=>?_)
      have H5:=Hi hcp
      refine hK.out _ _ H5.out.bel (fun hS=>?_)
      clear hK K hcp
      refine tK 17 (v:=.agg #[.int .i32 0,.int .u32 0,.slice q1 X.ls.length d1,.slice q2 X.us.length d2,ptV xt.1,.map (some m1),.map (some m2)]) rfl (fun W hSW=>exec_build_state _ _ _ _ _ rfl q1 q2 _ d1 _ d2 xt.1 m1 m2 rfl rfl rfl rfl rfl) hS ?_
      go_simp
      refine rD 18 rfl (fun K hK=>?_)
      refine step_of (by kernel_rfl) ?_
      refine H5.out.wpBox rfl rfl (fun O χ3 wx hot hL=>?_)
      have HOT:=Hi (And.intro hot hL)
      refine hK.out _ _ HOT.out.1.bel (fun hS=>?_)
      clear hK K hot hL
      refine tX 19 rfl hS ?_
      go_simp
      refine wpAnyH_done (by kernel_rfl) ?_ _
      go_simp
      clear hS
      go_wp2
      go_meet
      case rel=>exact ⟨O,χ3,rfl,HOT.out.1,HOT.out.2⟩
    ·refine step_of (by kernel_rfl) ?_
     refine H2.out.wpMap1 _ rfl (fun m1 wx hcp=>?_)
     have H3:=Hi hcp
     refine hK.out _ _ H3.out.bel (fun hS=>?_)
     clear hK K hcp
     refine wpAnyH_ready (rs:=[14,16]) (by kernel_rfl) (by simp) ?_
     refine AllReadyH.cons rfl (fun K hK=>?_) (AllReadyH.cons rfl (fun K hK=>?_) AllReadyH.nil)
     ·go_simp
      go_wp2_with ((go_at_call 32; refine (CpE.tree H3.out HG.out).mono ?_; rintro e wn ⟨xt,rfl,hcp⟩))
      have H4:=Hi hcp
      refine hK.out _ _ H4.out.bel (fun hS=>?_)
      clear hK K hcp
      refine rD 16 rfl (fun K hK=>?_)
      refine step_of (by kernel_rfl) ?_
      refine H4.out.wpMap2 _ rfl (fun m2 wx hcp=>?_)
      have H5:=Hi hcp
      refine hK.out _ _ H5.out.bel (fun hS=>?_)
      clear hK K hcp
      refine tK 17 (v:=.agg #[.int .i32 0,.int .u32 0,.slice q1 X.ls.length d1,.slice q2 X.us.length d2,ptV xt.1,.map (some m1),.map (some m2)]) rfl (fun W hSW=>exec_build_state _ _ _ _ _ rfl q1 q2 _ d1 _ d2 xt.1 m1 m2 rfl rfl rfl rfl rfl) hS ?_
      go_simp
      refine rD 18 rfl (fun K hK=>?_)
      refine step_of (by kernel_rfl) ?_
      refine H5.out.wpBox rfl rfl (fun O χ3 wx hot hL=>?_)
      have HOT:=Hi (And.intro hot hL)
      refine hK.out _ _ HOT.out.1.bel (fun hS=>?_)
      clear hK K hot hL
      refine tX 19 rfl hS ?_
      go_simp
      refine wpAnyH_done (by kernel_rfl) ?_ _
      go_simp
      clear hS
      go_wp2
      go_meet
      case rel=>exact ⟨O,χ3,rfl,HOT.out.1,HOT.out.2⟩
     ·refine step_of (by kernel_rfl) ?_
      refine H3.out.wpMap2 _ rfl (fun m2 wx hcp=>?_)
      have H4:=Hi hcp
      refine hK.out _ _ H4.out.bel (fun hS=>?_)
      clear hK K hcp
      refine rD 14 rfl (fun K hK=>?_)
      go_simp
      go_wp2_with ((go_at_call 32; refine (CpE.tree H4.out HG.out).mono ?_; rintro e wn ⟨xt,rfl,hcp⟩))
      have H5:=Hi hcp
      refine hK.out _ _ H5.out.bel (fun hS=>?_)
      clear hK K hcp
      refine tK 17 (v:=.agg #[.int .i32 0,.int .u32 0,.slice q1 X.ls.length d1,.slice q2 X.us.length d2,ptV xt.1,.map (some m1),.map (some m2)]) rfl (fun W hSW=>exec_build_state _ _ _ _ _ rfl q1 q2 _ d1 _ d2 xt.1 m1 m2 rfl rfl rfl rfl rfl) hS ?_
      go_simp
      refine rD 18 rfl (fun K hK=>?_)
      refine step_of (by kernel_rfl) ?_
      refine H5.out.wpBox rfl rfl (fun O χ3 wx hot hL=>?_)
      have HOT:=Hi (And.intro hot hL)
      refine hK.out _ _ HOT.out.1.bel (fun hS=>?_)
      clear hK K hot hL
      refine tX 19 rfl hS ?_
      go_simp
      refine wpAnyH_done (by kernel_rfl) ?_ _
      go_simp
      clear hS
      go_wp2
      go_meet
      case rel=>exact ⟨O,χ3,rfl,HOT.out.1,HOT.out.2⟩
    ·refine step_of (by kernel_rfl) ?_
     refine H2.out.wpMap2 _ rfl (fun m2 wx hcp=>?_)
     have H3:=Hi hcp
     refine hK.out _ _ H3.out.bel (fun hS=>?_)
     clear hK K hcp
     refine wpAnyH_ready (rs:=[14,15]) (by kernel_rfl) (by simp) ?_
     refine AllReadyH.cons rfl (fun K hK=>?_) (AllReadyH.cons rfl (fun K hK=>?_) AllReadyH.nil)
     ·go_simp
      go_wp2_with ((go_at_call 32; refine (CpE.tree H3.out HG.out).mono ?_; rintro e wn ⟨xt,rfl,hcp⟩))
      have H4:=Hi hcp
      refine hK.out _ _ H4.out.bel (fun hS=>?_)
      clear hK K hcp
      refine rD 15 rfl (fun K hK=>?_)
      refine step_of (by kernel_rfl) ?_
      refine H4.out.wpMap1 _ rfl (fun m1 wx hcp=>?_)
      have H5:=Hi hcp
      refine hK.out _ _ H5.out.bel (fun hS=>?_)
      clear hK K hcp
      refine tK 17 (v:=.agg #[.int .i32 0,.int .u32 0,.slice q1 X.ls.length d1,.slice q2 X.us.length d2,ptV xt.1,.map (some m1),.map (some m2)]) rfl (fun W hSW=>exec_build_state _ _ _ _ _ rfl q1 q2 _ d1 _ d2 xt.1 m1 m2 rfl rfl rfl rfl rfl) hS ?_
      go_simp
      refine rD 18 rfl (fun K hK=>?_)
      refine step_of (by kernel_rfl) ?_
      refine H5.out.wpBox rfl rfl (fun O χ3 wx hot hL=>?_)
      have HOT:=Hi (And.intro hot hL)
      refine hK.out _ _ HOT.out.1.bel (fun hS=>?_)
      clear hK K hot hL
      refine tX 19 rfl hS ?_
      go_simp
      refine wpAnyH_done (by kernel_rfl) ?_ _
      go_simp
      clear hS
      go_wp2
      go_meet
      case rel=>exact ⟨O,χ3,rfl,HOT.out.1,HOT.out.2⟩
     ·refine step_of (by kernel_rfl) ?_
      refine H3.out.wpMap1 _ rfl (fun m1 wx hcp=>?_)
      have H4:=Hi hcp
      refine hK.out _ _ H4.out.bel (fun hS=>?_)
      clear hK K hcp
      refine rD 14 rfl (fun K hK=>?_)
      go_simp
      go_wp2_with ((go_at_call 32; refine (CpE.tree H4.out HG.out).mono ?_; rintro e wn ⟨xt,rfl,hcp⟩))
      have H5:=Hi hcp
      refine hK.out _ _ H5.out.bel (fun hS=>?_)
      clear hK K hcp
      refine tK 17 (v:=.agg #[.int .i32 0,.int .u32 0,.slice q1 X.ls.length d1,.slice q2 X.us.length d2,ptV xt.1,.map (some m1),.map (some m2)]) rfl (fun W hSW=>exec_build_state _ _ _ _ _ rfl q1 q2 _ d1 _ d2 xt.1 m1 m2 rfl rfl rfl rfl rfl) hS ?_
      go_simp
      refine rD 18 rfl (fun K hK=>?_)
      refine step_of (by kernel_rfl) ?_
      refine H5.out.wpBox rfl rfl (fun O χ3 wx hot hL=>?_)
      have HOT:=Hi (And.intro hot hL)
      refine hK.out _ _ HOT.out.1.bel (fun hS=>?_)
      clear hK K hot hL
      refine tX 19 rfl hS ?_
      go_simp
      refine wpAnyH_done (by kernel_rfl) ?_ _
      go_simp
      clear hS
      go_wp2
      go_meet
      case rel=>exact ⟨O,χ3,rfl,HOT.out.1,HOT.out.2⟩
   ·refine step_of (by kernel_rfl) ?_
    refine H1.out.wpMap1 _ rfl (fun m1 wx hcp=>?_)
    have H2:=Hi hcp
    refine hK.out _ _ H2.out.bel (fun hS=>?_)
    clear hK K hcp
    refine wpAnyH_ready (rs:=[9,16]) (by kernel_rfl) (by simp) ?_
    refine AllReadyH.cons rfl (fun K hK=>?_) (AllReadyH.cons rfl (fun K hK=>?_) AllReadyH.nil)
    ·go_simp
     go_wp2_with ((go_at_call 31; refine (CpE.undos H2.out HG.out HPU.out).mono ?_; rintro e wn ⟨q2,d2,rfl,hcp⟩))
     have H3:=Hi hcp
     refine hK.out _ _ H3.out.bel (fun hS=>?_)
     clear hK K hcp
     refine wpAnyH_ready (rs:=[14,16]) (by kernel_rfl) (by simp) ?_
     refine AllReadyH.cons rfl (fun K hK=>?_) (AllReadyH.cons rfl (fun K hK=>?_) AllReadyH.nil)
     ·go_simp
      go_wp2_with ((go_at_call 32; refine (CpE.tree H3.out HG.out).mono ?_; rintro e wn ⟨xt,rfl,hcp⟩))
      have H4:=Hi hcp
      refine hK.out _ _ H4.out.bel (fun hS=>?_)
      clear hK K hcp
      refine rD 16 rfl (fun K hK=>?_)
      refine step_of (by kernel_rfl) ?_
      refine H4.out.wpMap2 _ rfl (fun m2 wx hcp=>?_)
      have H5:=Hi hcp
      refine hK.out _ _ H5.out.bel (fun hS=>?_)
      clear hK K hcp
      refine tK 17 (v:=.agg #[.int .i32 0,.int .u32 0,.slice q1 X.ls.length d1,.slice q2 X.us.length d2,ptV xt.1,.map (some m1),.map (some m2)]) rfl (fun W hSW=>exec_build_state _ _ _ _ _ rfl q1 q2 _ d1 _ d2 xt.1 m1 m2 rfl rfl rfl rfl rfl) hS ?_
      go_simp
      refine rD 18 rfl (fun K hK=>?_)
      refine step_of (by kernel_rfl) ?_
      refine H5.out.wpBox rfl rfl (fun O χ3 wx hot hL=>?_)
      have HOT:=Hi (And.intro hot hL)
      refine hK.out _ _ HOT.out.1.bel (fun hS=>?_)
      clear hK K hot hL
      refine tX 19 rfl hS ?_
      go_simp
      refine wpAnyH_done (by kernel_rfl) ?_ _
      go_simp
      clear hS
      go_wp2
      go_meet
      case rel=>exact ⟨O,χ3,rfl,HOT.out.1,HOT.out.2⟩
     ·refine step_of (by kernel_rfl) ?_
      refine H3.out.wpMap2 _ rfl (fun m2 wx hcp=>?_)
      have H4:=Hi hcp
      refine hK.out _ _ H4.out.bel (fun hS=>?_)
      clear hK K hcp
      refine rD 14 rfl (fun K hK=>?_)
      go_simp
      go_wp2_with ((go_at_call 32; refine (CpE.tree H4.out HG.out).mono ?_; rintro e wn ⟨xt,rfl,hcp⟩))
      have H5:=Hi hcp
      refine hK.out _ _ H5.out.bel (fun hS=>?_)
      clear hK K hcp
      refine tK 17 (v:=.agg #[.int .i32 0,.int .u32 0,.slice q1 X.ls.length d1,.slice q2 X.us.length d2,ptV xt.1,.map (some m1),.map (some m2)]) rfl (fun W hSW=>exec_build_state _ _ _ _ _ rfl q1 q2 _ d1 _ d2 xt.1 m1 m2 rfl rfl rfl rfl rfl) hS ?_
      go_simp
      refine rD 18 rfl (fun K hK=>?_)
      refine step_of (by kernel_rfl) ?_
      refine H5.out.wpBox rfl rfl (fun O χ3 wx hot hL=>?_)
      have HOT:=Hi (And.intro hot hL)
      refine hK.out _ _ HOT.out.1.bel (fun hS=>?_)
      clear hK K hot hL
      refine tX 19 rfl hS ?_
      go_simp
      refine wpAnyH_done (by kernel_rfl) ?_ _
      go_simp
      clear hS
      go_wp2
      go_meet
      case rel=>exact ⟨O,χ3,rfl,HOT.out.1,HOT.out.2⟩
    ·refine step_of (by kernel_rfl) ?_
     refine H2.out.wpMap2 _ rfl (fun m2 wx hcp=>?_)
     have H3:=Hi hcp
     refine hK.out _ _ H3.out.bel (fun hS=>?_)
     clear hK K hcp
     refine rD 9 rfl (fun K hK=>?_)
     go_simp
     go_wp2_with ((go_at_call 31; refine (CpE.undos H3.out HG.out HPU.out).mono ?_; rintro e wn ⟨q2,d2,rfl,hcp⟩))
     have H4:=Hi hcp
     refine hK.out _ _ H4.out.bel (fun hS=>?_)
     clear hK K hcp
     refine rD 14 rfl (fun K hK=>?_)
     go_simp
     go_wp2_with ((go_at_call 32; refine (CpE.tree H4.out HG.out).mono ?_; rintro e wn ⟨xt,rfl,hcp⟩))
     have H5:=Hi hcp
     refine hK.out _ _ H5.out.bel (fun hS=>?_)
     clear hK K hcp
     refine tK 17 (v:=.agg #[.int .i32 0,.int .u32 0,.slice q1 X.ls.length d1,.slice q2 X.us.length d2,ptV xt.1,.map (some m1),.map (some m2)]) rfl (fun W hSW=>exec_build_state _ _ _ _ _ rfl q1 q2 _ d1 _ d2 xt.1 m1 m2 rfl rfl rfl rfl rfl) hS ?_
     go_simp
     refine rD 18 rfl (fun K hK=>?_)
     refine step_of (by kernel_rfl) ?_
     refine H5.out.wpBox rfl rfl (fun O χ3 wx hot hL=>?_)
     have HOT:=Hi (And.intro hot hL)
     refine hK.out _ _ HOT.out.1.bel (fun hS=>?_)
     clear hK K hot hL
     refine tX 19 rfl hS ?_
     go_simp
     refine wpAnyH_done (by kernel_rfl) ?_ _
     go_simp
     clear hS
     go_wp2
     go_meet
     case rel=>exact ⟨O,χ3,rfl,HOT.out.1,HOT.out.2⟩
   ·refine step_of (by kernel_rfl) ?_
    refine H1.out.wpMap2 _ rfl (fun m2 wx hcp=>?_)
    have H2:=Hi hcp
    refine hK.out _ _ H2.out.bel (fun hS=>?_)
    clear hK K hcp
    refine wpAnyH_ready (rs:=[9,15]) (by kernel_rfl) (by simp) ?_
    refine AllReadyH.cons rfl (fun K hK=>?_) (AllReadyH.cons rfl (fun K hK=>?_) AllReadyH.nil)
    ·go_simp
     go_wp2_with ((go_at_call 31; refine (CpE.undos H2.out HG.out HPU.out).mono ?_; rintro e wn ⟨q2,d2,rfl,hcp⟩))
     have H3:=Hi hcp
     refine hK.out _ _ H3.out.bel (fun hS=>?_)
     clear hK K hcp
     refine wpAnyH_ready (rs:=[14,15]) (by kernel_rfl) (by simp) ?_
     refine AllReadyH.cons rfl (fun K hK=>?_) (AllReadyH.cons rfl (fun K hK=>?_) AllReadyH.nil)
     ·go_simp
      go_wp2_with ((go_at_call 32; refine (CpE.tree H3.out HG.out).mono ?_; rintro e wn ⟨xt,rfl,hcp⟩))
      have H4:=Hi hcp
      refine hK.out _ _ H4.out.bel (fun hS=>?_)
      clear hK K hcp
      refine rD 15 rfl (fun K hK=>?_)
      refine step_of (by kernel_rfl) ?_
      refine H4.out.wpMap1 _ rfl (fun m1 wx hcp=>?_)
      have H5:=Hi hcp
      refine hK.out _ _ H5.out.bel (fun hS=>?_)
      clear hK K hcp
      refine tK 17 (v:=.agg #[.int .i32 0,.int .u32 0,.slice q1 X.ls.length d1,.slice q2 X.us.length d2,ptV xt.1,.map (some m1),.map (some m2)]) rfl (fun W hSW=>exec_build_state _ _ _ _ _ rfl q1 q2 _ d1 _ d2 xt.1 m1 m2 rfl rfl rfl rfl rfl) hS ?_
      go_simp
      refine rD 18 rfl (fun K hK=>?_)
      refine step_of (by kernel_rfl) ?_
      refine H5.out.wpBox rfl rfl (fun O χ3 wx hot hL=>?_)
      have HOT:=Hi (And.intro hot hL)
      refine hK.out _ _ HOT.out.1.bel (fun hS=>?_)
      clear hK K hot hL
      refine tX 19 rfl hS ?_
      go_simp
      refine wpAnyH_done (by kernel_rfl) ?_ _
      go_simp
      clear hS
      go_wp2
      go_meet
      case rel=>exact ⟨O,χ3,rfl,HOT.out.1,HOT.out.2⟩
     ·refine step_of (by kernel_rfl) ?_
      refine H3.out.wpMap1 _ rfl (fun m1 wx hcp=>?_)
      have H4:=Hi hcp
      refine hK.out _ _ H4.out.bel (fun hS=>?_)
      clear hK K hcp
      refine rD 14 rfl (fun K hK=>?_)
      go_simp
      go_wp2_with ((go_at_call 32; refine (CpE.tree H4.out HG.out).mono ?_; rintro e wn ⟨xt,rfl,hcp⟩))
      have H5:=Hi hcp
      refine hK.out _ _ H5.out.bel (fun hS=>?_)
      clear hK K hcp
      refine tK 17 (v:=.agg #[.int .i32 0,.int .u32 0,.slice q1 X.ls.length d1,.slice q2 X.us.length d2,ptV xt.1,.map (some m1),.map (some m2)]) rfl (fun W hSW=>exec_build_state _ _ _ _ _ rfl q1 q2 _ d1 _ d2 xt.1 m1 m2 rfl rfl rfl rfl rfl) hS ?_
      go_simp
      refine rD 18 rfl (fun K hK=>?_)
      refine step_of (by kernel_rfl) ?_
      refine H5.out.wpBox rfl rfl (fun O χ3 wx hot hL=>?_)
      have HOT:=Hi (And.intro hot hL)
      refine hK.out _ _ HOT.out.1.bel (fun hS=>?_)
      clear hK K hot hL
      refine tX 19 rfl hS ?_
      go_simp
      refine wpAnyH_done (by kernel_rfl) ?_ _
      go_simp
      clear hS
      go_wp2
      go_meet
      case rel=>exact ⟨O,χ3,rfl,HOT.out.1,HOT.out.2⟩
    ·refine step_of (by kernel_rfl) ?_
     refine H2.out.wpMap1 _ rfl (fun m1 wx hcp=>?_)
     have H3:=Hi hcp
     refine hK.out _ _ H3.out.bel (fun hS=>?_)
     clear hK K hcp
     refine rD 9 rfl (fun K hK=>?_)
     go_simp
     go_wp2_with ((go_at_call 31; refine (CpE.undos H3.out HG.out HPU.out).mono ?_; rintro e wn ⟨q2,d2,rfl,hcp⟩))
     have H4:=Hi hcp
     refine hK.out _ _ H4.out.bel (fun hS=>?_)
     clear hK K hcp
     refine rD 14 rfl (fun K hK=>?_)
     go_simp
     go_wp2_with ((go_at_call 32; refine (CpE.tree H4.out HG.out).mono ?_; rintro e wn ⟨xt,rfl,hcp⟩))
     have H5:=Hi hcp
     refine hK.out _ _ H5.out.bel (fun hS=>?_)
     clear hK K hcp
     refine tK 17 (v:=.agg #[.int .i32 0,.int .u32 0,.slice q1 X.ls.length d1,.slice q2 X.us.length d2,ptV xt.1,.map (some m1),.map (some m2)]) rfl (fun W hSW=>exec_build_state _ _ _ _ _ rfl q1 q2 _ d1 _ d2 xt.1 m1 m2 rfl rfl rfl rfl rfl) hS ?_
     go_simp
     refine rD 18 rfl (fun K hK=>?_)
     refine step_of (by kernel_rfl) ?_
     refine H5.out.wpBox rfl rfl (fun O χ3 wx hot hL=>?_)
     have HOT:=Hi (And.intro hot hL)
     refine hK.out _ _ HOT.out.1.bel (fun hS=>?_)
     clear hK K hot hL
     refine tX 19 rfl hS ?_
     go_simp
     refine wpAnyH_done (by kernel_rfl) ?_ _
     go_simp
     clear hS
     go_wp2
     go_meet
     case rel=>exact ⟨O,χ3,rfl,HOT.out.1,HOT.out.2⟩
  ·refine step_of (by kernel_rfl) ?_
   refine H0.out.wpMap1 _ rfl (fun m1 wx hcp=>?_)
   have H1:=Hi hcp
   refine hK.out _ _ H1.out.bel (fun hS=>?_)
   clear hK K hcp
   refine wpAnyH_ready (rs:=[4,16]) (by kernel_rfl) (by simp) ?_
   refine AllReadyH.cons rfl (fun K hK=>?_) (AllReadyH.cons rfl (fun K hK=>?_) AllReadyH.nil)
   ·go_simp
    go_wp2_with ((go_at_call 30; refine (CpE.lines H1.out HG.out HPO.out).mono ?_; rintro e wn ⟨q1,d1,rfl,hcp⟩))
    have H2:=Hi hcp
    refine hK.out _ _ H2.out.bel (fun hS=>?_)
    clear hK K hcp
    refine wpAnyH_ready (rs:=[9,16]) (by kernel_rfl) (by simp) ?_
    refine AllReadyH.cons rfl (fun K hK=>?_) (AllReadyH.cons rfl (fun K hK=>?_) AllReadyH.nil)
    ·go_simp
     go_wp2_with ((go_at_call 31; refine (CpE.undos H2.out HG.out HPU.out).mono ?_; rintro e wn ⟨q2,d2,rfl,hcp⟩))
     have H3:=Hi hcp
     refine hK.out _ _ H3.out.bel (fun hS=>?_)
     clear hK K hcp
     refine wpAnyH_ready (rs:=[14,16]) (by kernel_rfl) (by simp) ?_
     refine AllReadyH.cons rfl (fun K hK=>?_) (AllReadyH.cons rfl (fun K hK=>?_) AllReadyH.nil)
     ·go_simp
      go_wp2_with ((go_at_call 32; refine (CpE.tree H3.out HG.out).mono ?_; rintro e wn ⟨xt,rfl,hcp⟩))
      have H4:=Hi hcp
      refine hK.out _ _ H4.out.bel (fun hS=>?_)
      clear hK K hcp
      refine rD 16 rfl (fun K hK=>?_)
      refine step_of (by kernel_rfl) ?_
      refine H4.out.wpMap2 _ rfl (fun m2 wx hcp=>?_)
      have H5:=Hi hcp
      refine hK.out _ _ H5.out.bel (fun hS=>?_)
      clear hK K hcp
      refine tK 17 (v:=.agg #[.int .i32 0,.int .u32 0,.slice q1 X.ls.length d1,.slice q2 X.us.length d2,ptV xt.1,.map (some m1),.map (some m2)]) rfl (fun W hSW=>exec_build_state _ _ _ _ _ rfl q1 q2 _ d1 _ d2 xt.1 m1 m2 rfl rfl rfl rfl rfl) hS ?_
      go_simp
      refine rD 18 rfl (fun K hK=>?_)
      refine step_of (by kernel_rfl) ?_
      refine H5.out.wpBox rfl rfl (fun O χ3 wx hot hL=>?_)
      have HOT:=Hi (And.intro hot hL)
      refine hK.out _ _ HOT.out.1.bel (fun hS=>?_)
      clear hK K hot hL
      refine tX 19 rfl hS ?_
      go_simp
      refine wpAnyH_done (by kernel_rfl) ?_ _
      go_simp
      clear hS
      go_wp2
      go_meet
      case rel=>exact ⟨O,χ3,rfl,HOT.out.1,HOT.out.2⟩
     ·refine step_of (by kernel_rfl) ?_
      refine H3.out.wpMap2 _ rfl (fun m2 wx hcp=>?_)
      have H4:=Hi hcp
      refine hK.out _ _ H4.out.bel (fun hS=>?_)
      clear hK K hcp
      refine rD 14 rfl (fun K hK=>?_)
      go_simp
      go_wp2_with ((go_at_call 32; refine (CpE.tree H4.out HG.out).mono ?_; rintro e wn ⟨xt,rfl,hcp⟩))
      have H5:=Hi hcp
      refine hK.out _ _ H5.out.bel (fun hS=>?_)
      clear hK K hcp
      refine tK 17 (v:=.agg #[.int .i32 0,.int .u32 0,.slice q1 X.ls.length d1,.slice q2 X.us.length d2,ptV xt.1,.map (some m1),.map (some m2)]) rfl (fun W hSW=>exec_build_state _ _ _ _ _ rfl q1 q2 _ d1 _ d2 xt.1 m1 m2 rfl rfl rfl rfl rfl) hS ?_
      go_simp
      refine rD 18 rfl (fun K hK=>?_)
      refine step_of (by kernel_rfl) ?_
      refine H5.out.wpBox rfl rfl (fun O χ3 wx hot hL=>?_)
      have HOT:=Hi (And.intro hot hL)
      refine hK.out _ _ HOT.out.1.bel (fun hS=>?_)
      clear hK K hot hL
      refine tX 19 rfl hS ?_
      go_simp
      refine wpAnyH_done (by kernel_rfl) ?_ _
      go_simp
      clear hS
      go_wp2
      go_meet
      case rel=>exact ⟨O,χ3,rfl,HOT.out.1,HOT.out.2⟩
    ·refine step_of (by kernel_rfl) ?_
     refine H2.out.wpMap2 _ rfl (fun m2 wx hcp=>?_)
     have H3:=Hi hcp
     refine hK.out _ _ H3.out.bel (fun hS=>?_)
     clear hK K hcp
     refine rD 9 rfl (fun K hK=>?_)
     go_simp
     go_wp2_with ((go_at_call 31; refine (CpE.undos H3.out HG.out HPU.out).mono ?_; rintro e wn ⟨q2,d2,rfl,hcp⟩))
     have H4:=Hi hcp
     refine hK.out _ _ H4.out.bel (fun hS=>?_)
     clear hK K hcp
     refine rD 14 rfl (fun K hK=>?_)
     go_simp
     go_wp2_with ((go_at_call 32; refine (CpE.tree H4.out HG.out).mono ?_; rintro e wn ⟨xt,rfl,hcp⟩))
     have H5:=Hi hcp
     refine hK.out _ _ H5.out.bel (fun hS=>?_)
     clear hK K hcp
     refine tK 17 (v:=.agg #[.int .i32 0,.int .u32 0,.slice q1 X.ls.length d1,.slice q2 X.us.length d2,ptV xt.1,.map (some m1),.map (some m2)]) rfl (fun W hSW=>exec_build_state _ _ _ _ _ rfl q1 q2 _ d1 _ d2 xt.1 m1 m2 rfl rfl rfl rfl rfl) hS ?_
     go_simp
     refine rD 18 rfl (fun K hK=>?_)
     refine step_of (by kernel_rfl) ?_
     refine H5.out.wpBox rfl rfl (fun O χ3 wx hot hL=>?_)
     have HOT:=Hi (And.intro hot hL)
     refine hK.out _ _ HOT.out.1.bel (fun hS=>?_)
     clear hK K hot hL
     refine tX 19 rfl hS ?_
     go_simp
     refine wpAnyH_done (by kernel_rfl) ?_ _
     go_simp
     clear hS
     go_wp2
     go_meet
     case rel=>exact ⟨O,χ3,rfl,HOT.out.1,HOT.out.2⟩
   ·refine step_of (by kernel_rfl) ?_
    refine H1.out.wpMap2 _ rfl (fun m2 wx hcp=>?_)
    have H2:=Hi hcp
    refine hK.out _ _ H2.out.bel (fun hS=>?_)
    clear hK K hcp
    refine rD 4 rfl (fun K hK=>?_)
    go_simp
    go_wp2_with ((go_at_call 30; refine (CpE.lines H2.out HG.out HPO.out).mono ?_; rintro e wn ⟨q1,d1,rfl,hcp⟩))
    have H3:=Hi hcp
    refine hK.out _ _ H3.out.bel (fun hS=>?_)
    clear hK K hcp
    refine rD 9 rfl (fun K hK=>?_)
    go_simp
    go_wp2_with ((go_at_call 31; refine (CpE.undos H3.out HG.out HPU.out).mono ?_; rintro e wn ⟨q2,d2,rfl,hcp⟩))
    have H4:=Hi hcp
    refine hK.out _ _ H4.out.bel (fun hS=>?_)
    clear hK K hcp
    refine rD 14 rfl (fun K hK=>?_)
    go_simp
    go_wp2_with ((go_at_call 32; refine (CpE.tree H4.out HG.out).mono ?_; rintro e wn ⟨xt,rfl,hcp⟩))
    have H5:=Hi hcp
    refine hK.out _ _ H5.out.bel (fun hS=>?_)
    clear hK K hcp
    refine tK 17 (v:=.agg #[.int .i32 0,.int .u32 0,.slice q1 X.ls.length d1,.slice q2 X.us.length d2,ptV xt.1,.map (some m1),.map (some m2)]) rfl (fun W hSW=>exec_build_state _ _ _ _ _ rfl q1 q2 _ d1 _ d2 xt.1 m1 m2 rfl rfl rfl rfl rfl) hS ?_
    go_simp
    refine rD 18 rfl (fun K hK=>?_)
    refine step_of (by kernel_rfl) ?_
    refine H5.out.wpBox rfl rfl (fun O χ3 wx hot hL=>?_)
    have HOT:=Hi (And.intro hot hL)
    refine hK.out _ _ HOT.out.1.bel (fun hS=>?_)
    clear hK K hot hL
    refine tX 19 rfl hS ?_
    go_simp
    refine wpAnyH_done (by kernel_rfl) ?_ _
    go_simp
    clear hS
    go_wp2
    go_meet
    case rel=>exact ⟨O,χ3,rfl,HOT.out.1,HOT.out.2⟩
  ·refine step_of (by kernel_rfl) ?_
   refine H0.out.wpMap2 _ rfl (fun m2 wx hcp=>?_)
   have H1:=Hi hcp
   refine hK.out _ _ H1.out.bel (fun hS=>?_)
   clear hK K hcp
   refine wpAnyH_ready (rs:=[4,15]) (by kernel_rfl) (by simp) ?_
   refine AllReadyH.cons rfl (fun K hK=>?_) (AllReadyH.cons rfl (fun K hK=>?_) AllReadyH.nil)
   ·go_simp
    go_wp2_with ((go_at_call 30; refine (CpE.lines H1.out HG.out HPO.out).mono ?_; rintro e wn ⟨q1,d1,rfl,hcp⟩))
    have H2:=Hi hcp
    refine hK.out _ _ H2.out.bel (fun hS=>?_)
    clear hK K hcp
    refine wpAnyH_ready (rs:=[9,15]) (by kernel_rfl) (by simp) ?_
    refine AllReadyH.cons rfl (fun K hK=>?_) (AllReadyH.cons rfl (fun K hK=>?_) AllReadyH.nil)
    ·go_simp
     go_wp2_with ((go_at_call 31; refine (CpE.undos H2.out HG.out HPU.out).mono ?_; rintro e wn ⟨q2,d2,rfl,hcp⟩))
     have H3:=Hi hcp
     refine hK.out _ _ H3.out.bel (fun hS=>?_)
     clear hK K hcp
     refine wpAnyH_ready (rs:=[14,15]) (by kernel_rfl) (by simp) ?_
     refine AllReadyH.cons rfl (fun K hK=>?_) (AllReadyH.cons rfl (fun K hK=>?_) AllReadyH.nil)
     ·go_simp
      go_wp2_with ((go_at_call 32; refine (CpE.tree H3.out HG.out).mono ?_; rintro e wn ⟨xt,rfl,hcp⟩))
      have H4:=Hi hcp
      refine hK.out _ _ H4.out.bel (fun hS=>?_)
      clear hK K hcp
      refine rD 15 rfl (fun K hK=>?_)
      refine step_of (by kernel_rfl) ?_
      refine H4.out.wpMap1 _ rfl (fun m1 wx hcp=>?_)
      have H5:=Hi hcp
      refine hK.out _ _ H5.out.bel (fun hS=>?_)
      clear hK K hcp
      refine tK 17 (v:=.agg #[.int .i32 0,.int .u32 0,.slice q1 X.ls.length d1,.slice q2 X.us.length d2,ptV xt.1,.map (some m1),.map (some m2)]) rfl (fun W hSW=>exec_build_state _ _ _ _ _ rfl q1 q2 _ d1 _ d2 xt.1 m1 m2 rfl rfl rfl rfl rfl) hS ?_
      go_simp
      refine rD 18 rfl (fun K hK=>?_)
      refine step_of (by kernel_rfl) ?_
      refine H5.out.wpBox rfl rfl (fun O χ3 wx hot hL=>?_)
      have HOT:=Hi (And.intro hot hL)
      refine hK.out _ _ HOT.out.1.bel (fun hS=>?_)
      clear hK K hot hL
      refine tX 19 rfl hS ?_
      go_simp
      refine wpAnyH_done (by kernel_rfl) ?_ _
      go_simp
      clear hS
      go_wp2
      go_meet
      case rel=>exact ⟨O,χ3,rfl,HOT.out.1,HOT.out.2⟩
     ·refine step_of (by kernel_rfl) ?_
      refine H3.out.wpMap1 _ rfl (fun m1 wx hcp=>?_)
      have H4:=Hi hcp
      refine hK.out _ _ H4.out.bel (fun hS=>?_)
      clear hK K hcp
      refine rD 14 rfl (fun K hK=>?_)
      go_simp
      go_wp2_with ((go_at_call 32; refine (CpE.tree H4.out HG.out).mono ?_; rintro e wn ⟨xt,rfl,hcp⟩))
      have H5:=Hi hcp
      refine hK.out _ _ H5.out.bel (fun hS=>?_)
      clear hK K hcp
      refine tK 17 (v:=.agg #[.int .i32 0,.int .u32 0,.slice q1 X.ls.length d1,.slice q2 X.us.length d2,ptV xt.1,.map (some m1),.map (some m2)]) rfl (fun W hSW=>exec_build_state _ _ _ _ _ rfl q1 q2 _ d1 _ d2 xt.1 m1 m2 rfl rfl rfl rfl rfl) hS ?_
      go_simp
      refine rD 18 rfl (fun K hK=>?_)
      refine step_of (by kernel_rfl) ?_
      refine H5.out.wpBox rfl rfl (fun O χ3 wx hot hL=>?_)
      have HOT:=Hi (And.intro hot hL)
      refine hK.out _ _ HOT.out.1.bel (fun hS=>?_)
      clear hK K hot hL
      refine tX 19 rfl hS ?_
      go_simp
      refine wpAnyH_done (by kernel_rfl) ?_ _
      go_simp
      clear hS
      go_wp2
      go_meet
      case rel=>exact ⟨O,χ3,rfl,HOT.out.1,HOT.out.2⟩
    ·refine step_of (by kernel_rfl) ?_
     refine H2.out.wpMap1 _ rfl (fun m1 wx hcp=>?_)
     have H3:=Hi hcp
     refine hK.out _ _ H3.out.bel (fun hS=>?_)
     clear hK K hcp
     refine rD 9 rfl (fun K hK=>?_)
     go_simp
     go_wp2_with ((go_at_call 31; refine (CpE.undos H3.out HG.out HPU.out).mono ?_; rintro e wn ⟨q2,d2,rfl,hcp⟩))
     have H4:=Hi hcp
     refine hK.out _ _ H4.out.bel (fun hS=>?_)
     clear hK K hcp
     refine rD 14 rfl (fun K hK=>?_)
     go_simp
     go_wp2_with ((go_at_call 32; refine (CpE.tree H4.out HG.out).mono ?_; rintro e wn ⟨xt,rfl,hcp⟩))
     have H5:=Hi hcp
     refine hK.out _ _ H5.out.bel (fun hS=>?_)
     clear hK K hcp
     refine tK 17 (v:=.agg #[.int .i32 0,.int .u32 0,.slice q1 X.ls.length d1,.slice q2 X.us.length d2,ptV xt.1,.map (some m1),.map (some m2)]) rfl (fun W hSW=>exec_build_state _ _ _ _ _ rfl q1 q2 _ d1 _ d2 xt.1 m1 m2 rfl rfl rfl rfl rfl) hS ?_
     go_simp
     refine rD 18 rfl (fun K hK=>?_)
     refine step_of (by kernel_rfl) ?_
     refine H5.out.wpBox rfl rfl (fun O χ3 wx hot hL=>?_)
     have HOT:=Hi (And.intro hot hL)
     refine hK.out _ _ HOT.out.1.bel (fun hS=>?_)
     clear hK K hot hL
     refine tX 19 rfl hS ?_
     go_simp
     refine wpAnyH_done (by kernel_rfl) ?_ _
     go_simp
     clear hS
     go_wp2
     go_meet
     case rel=>exact ⟨O,χ3,rfl,HOT.out.1,HOT.out.2⟩
   ·refine step_of (by kernel_rfl) ?_
    refine H1.out.wpMap1 _ rfl (fun m1 wx hcp=>?_)
    have H2:=Hi hcp
    refine hK.out _ _ H2.out.bel (fun hS=>?_)
    clear hK K hcp
    refine rD 4 rfl (fun K hK=>?_)
    go_simp
    go_wp2_with ((go_at_call 30; refine (CpE.lines H2.out HG.out HPO.out).mono ?_; rintro e wn ⟨q1,d1,rfl,hcp⟩))
    have H3:=Hi hcp
    refine hK.out _ _ H3.out.bel (fun hS=>?_)
    clear hK K hcp
    refine rD 9 rfl (fun K hK=>?_)
    go_simp
    go_wp2_with ((go_at_call 31; refine (CpE.undos H3.out HG.out HPU.out).mono ?_; rintro e wn ⟨q2,d2,rfl,hcp⟩))
    have H4:=Hi hcp
    refine hK.out _ _ H4.out.bel (fun hS=>?_)
    clear hK K hcp
    refine rD 14 rfl (fun K hK=>?_)
    go_simp
    go_wp2_with ((go_at_call 32; refine (CpE.tree H4.out HG.out).mono ?_; rintro e wn ⟨xt,rfl,hcp⟩))
    have H5:=Hi hcp
    refine hK.out _ _ H5.out.bel (fun hS=>?_)
    clear hK K hcp
    refine tK 17 (v:=.agg #[.int .i32 0,.int .u32 0,.slice q1 X.ls.length d1,.slice q2 X.us.length d2,ptV xt.1,.map (some m1),.map (some m2)]) rfl (fun W hSW=>exec_build_state _ _ _ _ _ rfl q1 q2 _ d1 _ d2 xt.1 m1 m2 rfl rfl rfl rfl rfl) hS ?_
    go_simp
    refine rD 18 rfl (fun K hK=>?_)
    refine step_of (by kernel_rfl) ?_
    refine H5.out.wpBox rfl rfl (fun O χ3 wx hot hL=>?_)
    have HOT:=Hi (And.intro hot hL)
    refine hK.out _ _ HOT.out.1.bel (fun hS=>?_)
    clear hK K hot hL
    refine tX 19 rfl hS ?_
    go_simp
    refine wpAnyH_done (by kernel_rfl) ?_ _
    go_simp
    clear hS
    go_wp2
    go_meet
    case rel=>exact ⟨O,χ3,rfl,HOT.out.1,HOT.out.2⟩
 case rest =>
  rename World=>w2
  obtain ⟨O,χ3,rfl,hot,hL⟩:=hcut
  generalize w1.drew=wd at *
  have HOT:=Hi hot
  have HL0:=Hi hL
  clear hot hL
  have HG2:=Hi (HG.out.kept HOT.out.bel)
  have y5:=HG2.out.c3
  obtain ⟨oo,hrg,hit⟩:=HG2.out.ms.mast.range mtMast
  have hb2:=(Below.refl w2.heap.size w2).alloc (Nat.le_refl _) oo
  obtain ⟨ob,hob⟩:∃ ob,ob=O.b:=⟨_,rfl⟩
  rw [← hob]
  have HK:=Hi (show OtI wd X χ1 w2.heap.size ob O χ3 X.L (w2.alloc oo) from
   ⟨HOT.out.kept hb2,hit,by rw [HL0.out]; exact List.Perm.refl _,by
    cases e:χ3 w2.heap.size with
    | zero=>rfl
    | succ n=>exact absurd (HOT.out.lt w2.heap.size (by rw [e]; omega)) (by omega),HOT.out.bel.size,hob.symm⟩)
  have HWF:=Hi (show ∀ n m,(n,m) ∈ X.L→StWf n∧StWf m∧m≠(0,0)∧lookL X.L n=some m from fun n m hm=>by
   have h1:=lookL_some HG.out.ms.nd hm
   have h2:=HG.out.good.mas n m (by rw [← HG.out.hm]; exact h1)
   have okm:∀ x,((Gm.run (X.ops.take X.us.length)).s x).isSome=true→Tm.okN x=true:=fun x hx=>by
    obtain ⟨s,hs⟩:=Option.isSome_iff_exists.1 hx
    exact (HG.out.good.node x s hs).1
   exact ⟨okN_wf (okm n h2.1),okN_wf (okm m h2.2),fun e=>by have:=okm m h2.2; rw [e] at this; revert this; decide,h1⟩)
  have HND:=Hi HG.out.ms.nd
  have HM3:=Hi (show X.M3<wd.heap.size from HG.out.ms.mast.lt)
  obtain ⟨r0,hr0⟩:∃ r,r=w2.heap.size:=⟨_,rfl⟩
  clear hit hb2 HOT HL0 hob
  go_wp2_with fail
  clear y5 hrg
  rw [← hr0] at HK ⊢
  clear hr0
  generalize w2.alloc oo=w3 at *
  go_loopg [] (X.L.length+1) (fun g wr=>∃ O χ3 left,OtI wd X χ1 r0 ob O χ3 left wr∧left.length<g)
  case atStart=>exact ⟨_,_,_,HK.out,Nat.lt_succ_self _⟩
  case round =>
   clear HK
   obtain ⟨O,χ3,left,hK,hlg⟩:=hrel
   obtain ⟨g1,rfl⟩:∃ g1,gk=g1+1:=⟨gk - 1,by omega⟩
   have HK:=Hi hK
   have HLG:=Hi hlg
   clear hK hlg
   rcases HK.out.it.next 0 with ⟨h0,hnx⟩ | ⟨b,left',w4,hp,hnx,ht2,hit2,hen⟩
   ·have HE:=Hi (fun (w5:World)=>show w5=wr.alloc (.cells #[ptV ob] 72)→GCloned gg ops χ w (.returned (ptV wr.heap.size)) w5 from fun h5=>by
     have h1:left=[]:=by simpa [masts] using h0
     have h2:=HK.out.all
     rw [h1,List.append_nil] at h2
     obtain ⟨f1,f2,f3,f4,f5⟩:=HF.out
     exact cloned_of HG.out f1 f2 f3 f4 f5 HK.out.ot h2 (by rw [HK.out.ob]; exact h5))
    clear HK HLG h0
    go_wp2
    go_ret
    exact HE.out _ rfl
   ·obtain ⟨k,hk,hkp⟩:=perm_map_inv (fun e:Qm.St × Qm.St=>(e.1,snV e.2)) hp
    cases k with
    | nil=>cases hk
    | cons e left'' =>
     obtain ⟨n,q⟩:=e
     rw [List.map_cons,List.cons.injEq] at hk
     obtain ⟨rfl,rfl⟩:=hk
     have HLT2:=Hi (show left''.length<g1 from by have h1:=hkp.length_eq; have h2:=HLG.out; simp only [List.length_cons] at h1; omega)
     have HP:=Hi (show ((O.L ++ [(n,q)]) ++ left'').Perm X.L from by
      rw [List.append_assoc]
      exact (List.Perm.append_left O.L hkp).trans HK.out.all)
     have HMEM:=Hi (HWF.out n q (HP.out.mem_iff.1 (by simp)))
     have HNO:=Hi (show lookL O.L n=none from by
      have h1:(((O.L ++ [(n,q)]) ++ left'').map Prod.fst).Nodup:=(HP.out.map Prod.fst).nodup_iff.2 HND.out
      rw [List.map_append,List.map_append] at h1
      cases e:lookL O.L n with
      | none=>rfl
      | some m=>exact absurd rfl ((List.nodup_append.1 (List.nodup_append.1 h1).1).2.2 n (List.mem_map.2 ⟨_,lookL_mem e,rfl⟩) n (by simp)))
     have HLS:=Hi (show ∀ a c,lookL O.L a=some c→StWf c from fun a c hc=>(HWF.out a c (HP.out.mem_iff.1 (by simp [lookL_mem hc]))).2.1)
     have HO4:=Hi (HK.out.ot.turns ht2 (fun k hk hh=>hk (by rw [hh]; exact HK.out.fr)) (fun k hk hh=>by have:=HK.out.ge; omega))
     have HIT2:=Hi hit2
     clear hp hkp ht2 hit2 HLG
     have HZ1:=Hi ((AgAt.new w4 #[.int .i64 0,.int .i64 0] 27).kept ((Below.refl _ _).alloc (Nat.le_refl _) (.cells #[.int .i64 0,.int .i64 0] 27)))
     have HZ2:=Hi (show AgAt ((w4.alloc (.cells #[.int .i64 0,.int .i64 0] 27)).alloc (.cells #[.int .i64 0,.int .i64 0] 27)) (w4.heap.size+1) #[.int .i64 0,.int .i64 0] from by
      have:=AgAt.new (w4.alloc (.cells #[.int .i64 0,.int .i64 0] 27)) #[.int .i64 0,.int .i64 0] 27
      rw [show (w4.alloc (.cells #[.int .i64 0,.int .i64 0] 27)).heap.size=w4.heap.size+1 from by simp] at this
      exact this)
     have HBZ:=Hi (show Below w4.heap.size w4 ((w4.alloc (.cells #[.int .i64 0,.int .i64 0] 27)).alloc (.cells #[.int .i64 0,.int .i64 0] 27)) from ((Below.refl _ _).alloc (Nat.le_refl _) _).alloc (by simp) _)
     go_upto_region 8 with (first | (refine wpList_store_ag stT rfl _ _ rfl _ rfl _ HZ1.out rfl rfl rfl (stA_one _ _) ?_; intro w5 hv4 hko4 hsz4 hbn4) | (refine wpList_store_ag stT rfl _ _ rfl _ rfl _ (HZ2.out.block (hko4 _ (Nat.succ_ne_self _))) rfl rfl rfl (stA_one _ _) ?_; intro w6 hv5 hko5 hsz5 hbn5))
     have HB6:=Hi (hbn5 _ _ (hbn4 _ _ HBZ.out (Nat.le_refl _)) (Nat.le_succ _))
     have HV4:=Hi (AgAt.block hv4 (hko5 _ (by omega)))
     have HV5:=Hi hv5
     replace HIT2:=Hi (HIT2.out.below HB6.out)
     replace HO4:=Hi (HO4.out.kept HB6.out)
     clear hv4 hv5 hko4 hko5 hsz4 hsz5 hbn4 hbn5 hen hnx HZ1 HZ2 HBZ HB6
     go_wp2_with (first | (refine wpList_load_ag stT rfl _ rfl _ rfl (A:=#[.int .i64 n.1,.int .i64 n.2]) rfl HV4.out ?_) | (refine wpList_load_ag stT rfl _ rfl _ rfl (A:=#[.int .i64 q.1,.int .i64 q.2]) rfl HV5.out ?_))
     have hobb:=HK.out.ob
     have hturn:=turn_any n q w6 HO4.out.ms HO4.out.at_ rfl rfl (fun h5=>by rw [HO4.out.cb] at h5; cases h5) HMEM.out.1 HMEM.out.2.1 HLS.out
     rw [hobb] at hturn
     refine hturn.mono ?_
     rintro e w7 hT
     have he:=hT.1
     subst he
     obtain ⟨D7,h7⟩:=HO4.out.turned hT HNO.out HMEM.out.2.2.1
     have HK7:=Hi (show OtI wd X χ1 r0 ob { O with L:=O.L ++ [(n,q)],D:=D7 } (grown χ3 w6 w7 5) left'' w7 from
      ⟨h7,HIT2.out.turns hT.2.choose_spec.2 (fun h=>by rw [HK.out.fr] at h; cases h) (fun h=>by have:=HO4.out.far h (by decide) (by decide); have:=HM3.out; omega),HP.out,by
       unfold grown
       rw [if_pos HIT2.out.ltR]
       exact HK.out.fr,HK.out.ge,hobb⟩)
     clear HK HIT2 HO4 HLS HP HMEM HNO HV4 HV5 h7 hT hturn hobb
     go_wp2
     go_roundg g1
     case rel=>exact ⟨_,_,_,HK7.out,HLT2.out⟩
     case measure=>omega
end Go.Proofs.Ythifdefjmfakgaa
