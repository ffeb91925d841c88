/-
  WHAT TAKES BACK: the functions that create, move and point leave.
  No conditions but sizes.
  ROWS OF STAMPS by the steps of a walk: one made, one loaded, one shorter; a map's update; where two worlds part.
  No conditions.
  ROWS WHOSE ELEMENTS ARE ONE CELL (pointers, functions): parts of them, one more; the state's own cells.
  No conditions but sizes.
  create, move and point: what an op that is not passed over makes of it.
  No conditions but sizes.
-/
import Derived.Test.YthfhefdfehlbkaaGreatSh
import Derived.Test.YthfhefdfehlbkaaGreatK17
import Derived.Test.YthfhefdfehlbkaaGreatK14
import Derived.Test.YthfhefdfehlbkaaGreatK16
import Derived.Test.YthfhefdfehlbkaaGreatK01
import Derived.Deep.MidRow
set_option maxRecDepth 100000
set_option maxHeartbeats 4000000
namespace Go.Proofs.YthfhefdfehlbkaaGreat
open Go.RowKit
open Tm (Sp Tr has put cut kids)
structure Like (X X':Gx):Prop where
 lk:X'.lk=X.lk
 b:X'.b=X.b
 po:X'.po=X.po
 ls:X'.ls=X.ls
 pu:X'.pu=X.pu
 us:X'.us=X.us
theorem Like.refl (X:Gx):Like X X:=⟨rfl,rfl,rfl,rfl,rfl,rfl⟩
def shared (χ:Nat→Nat) (b:Nat):Nat→Nat:=fun k=>if k=b then 6 else χ k
theorem shared_self {χ:Nat→Nat} {b:Nat}:shared χ b b=6:=if_pos rfl
theorem shared_old {χ:Nat→Nat} {b k:Nat} (h:χ k≠0) (hb:χ b=0∨χ b=6):shared χ b k=χ k:=by
 unfold shared
 split
 ·next e =>
  subst e
  rcases hb with hb | hb
  ·exact absurd hb h
  ·exact hb.symm
 ·rfl
theorem Core.share {w:World} {X:Gx} {χ:Nat→Nat} {g:Gm.G} (h:Core w X χ g) {b:Nat} (hb:χ b=0∨χ b=6) (hl:b<w.heap.size):Core w X (shared χ b) g :=
 h.recol (fun k hk=>shared_old hk hb) fun k hk=>by
  unfold shared at hk
  split at hk
  ·next e=>rw [e]; exact hl
  ·exact h.lt k hk
theorem Goes.share {w w':World} {χ χ':Nat→Nat} (h:Goes w χ w' χ') {b:Nat} (hb:w.heap.size≤b):Goes w χ w' (shared χ' b) :=
 ⟨h.turns,fun k hk=>(if_neg (by omega)).trans (h.keep k hk)⟩
def Undone (X:Gx) (χ:Nat→Nat) (g:Gm.G) (w:World) (e:Ending) (w':World):Prop:=e=.returned (.tuple #[])∧∃ X' χ',Core w' X' χ' g∧Like X X'∧Goes w χ w' χ'
theorem Core.b4 {w:World} {X:Gx} {χ:Nat→Nat} {g:Gm.G} (h:Core w X χ g):¬ (fun k=>χ k=4) X.b:=by show ¬ χ X.b=4; rw [h.cb]; decide
theorem Core.b5 {w:World} {X:Gx} {χ:Nat→Nat} {g:Gm.G} (h:Core w X χ g):¬ (fun k=>χ k=5) X.b:=by show ¬ χ X.b=5; rw [h.cb]; decide
theorem Core.spw {w:World} {X:Gx} {χ:Nat→Nat} {g:Gm.G} (h:Core w X χ g) {n:Qm.St} {s:Sp} (hs:Tm.look X.T n=some s):StWf s.1:=h.par _ (Tm.look_mem hs)
theorem Core.mw {w:World} {X:Gx} {χ:Nat→Nat} {g:Gm.G} (h:Core w X χ g) (a c:Qm.St) (hl:lookL X.L a=some c):StWf c:=by
 rw [h.hm] at hl
 obtain ⟨s,hs⟩:=Option.isSome_iff_exists.1 (h.good.mas _ _ hl).2
 exact okN_wf (h.good.node _ _ hs).1
theorem undoCr_any {X:Gx} {χ:Nat→Nat} {g:Gm.G} {nb:Nat} (n:Qm.St) (sp:Sp) (w:World) (h:Core w X χ ⟨Gm.upd g.s n (some sp),g.m⟩) (gd:Gm.Good g) (hn:Tm.okN n=true) (h3:g.s n=none) (h4:Gm.has g sp.1=true) (hb:AgAt w nb (stA n)) (hx:χ nb=6) :
  Calls Tryz.prog 297 #[ptV X.b,ptV nb] w (Undone X χ g w):=by
 have HC:=Hi h
 have HN:=Hi hb
 have HGD:=Hi gd
 have HOK:=Hi (And.intro hn (And.intro h3 h4))
 have HX:=Hi hx
 clear h gd hn h3 h4 hb hx
 go_enter Tryz.func297,Tryz.ntmps297
 have hbd:=Below.drew (Below.refl w.heap.size w)
 have HG0:=Hi (Goes.of_below (χ:=χ) hbd)
 replace HC:=Hi (HC.out.kept hbd)
 replace HN:=Hi (AgAt.kept HN.out hbd)
 refine wp_region_held_drew (S:=fun W=>AgAt W X.b X.cells∧AgAt W nb (stA n)) (by kernel_rfl) ⟨HC.out.at_,HN.out⟩ (fun hS=>?_)
 clear hbd
 generalize w.drew=wd at *
 refine tX 0 rfl hS ?_
 refine tX 1 rfl hS ?_
 refine tX 2 rfl hS ?_
 refine tK 3 (v:=?_) rfl ?_ hS ?_
 rotate_left
 ·intro W hSW
  have y:W.cell? ⟨X.b,4,none⟩=some (ptV X.P):=(AgAt.cell hSW.1 4).trans rfl
  go_simp
  all_goals with_reducible rfl
 go_simp
 refine tK 4 (v:=snV n) rfl (fun W hSW=>exec_load_ag stT rfl rfl rfl hSW.2) hS ?_
 go_simp
 refine rD 5 rfl (fun K hK=>?_)
 go_simp
 go_wp2_with (go_at_call 298; refine (drop_any n _ HC.out.tree (okN_wf HOK.out.1) (fun s hs=>HC.out.spw hs)).mono ?_; rintro e w5 ⟨rfl,C5,hl5,ht5⟩)
 have HE:=Hi (show Undone X χ g w (.returned (.tuple #[])) w5 from by
  obtain ⟨z,e1,e2,e3⟩:=Gm.drop_eq HGD.out HC.out.tk HOK.out.1 HC.out.hs HOK.out.2.1 HOK.out.2.2
  rw [e1] at hl5
  exact ⟨rfl,_,_,HC.out.tree' (g':=g) hl5 ht5 e3 e2 rfl HGD.out (fun m hm=>HC.out.dom m (by
   show (Gm.upd g.s n (some sp) m).isSome=true
   unfold Gm.upd
   split
   ·rfl
   ·exact hm)),⟨rfl,rfl,rfl,rfl,rfl,rfl⟩,HG0.out.trans (goes_grown ht5 (by decide) (by decide))⟩)
 refine hK.out _ _ ⟨AgAt.block hS.1 (ht5.block _ (AgAt.lt hS.1) HC.out.b4),AgAt.block hS.2 (ht5.block _ (AgAt.lt hS.2) (by show ¬ χ nb=4; rw [HX.out]; decide))⟩ (fun hS=>?_)
 clear hK K hl5 ht5
 refine wpAnyH_done (by kernel_rfl) ?_ _
 go_simp
 clear hS
 go_wp2
 go_end0
 exact HE.out
theorem undoMv_any {X:Gx} {χ:Nat→Nat} {g:Gm.G} {nb cb:Nat} (n:Qm.St) (sp was:Sp) (w:World) (h:Core w X χ ⟨Gm.upd g.s n (some sp),g.m⟩) (gd:Gm.Good g) (h3:g.s n=some was) (hb:AgAt w nb (stA n)) (hc:AgAt w cb (spA was)) (hx:χ nb=6) (hy:χ cb=6) :
  Calls Tryz.prog 300 #[ptV X.b,ptV nb,ptV cb] w (Undone X χ g w):=by
 have HC:=Hi h
 have HN:=Hi hb
 have HCB:=Hi hc
 have HGD:=Hi gd
 have HOK:=Hi h3
 have HX:=Hi (And.intro hx hy)
 clear h gd h3 hb hc hx hy
 go_enter Tryz.func300,Tryz.ntmps300
 have hbd:=Below.drew (Below.refl w.heap.size w)
 have HG0:=Hi (Goes.of_below (χ:=χ) hbd)
 replace HC:=Hi (HC.out.kept hbd)
 replace HN:=Hi (AgAt.kept HN.out hbd)
 replace HCB:=Hi (AgAt.kept HCB.out hbd)
 refine wp_region_held_drew (S:=fun W=>AgAt W X.b X.cells∧AgAt W nb (stA n)∧AgAt W cb (spA was)) (by kernel_rfl) ⟨HC.out.at_,HN.out,HCB.out⟩ (fun hS=>?_)
 clear hbd
 generalize w.drew=wd at *
 refine tX 0 rfl hS ?_
 refine tX 1 rfl hS ?_
 refine tX 2 rfl hS ?_
 refine tK 3 (v:=?_) rfl ?_ hS ?_
 rotate_left
 ·intro W hSW
  have y:W.cell? ⟨X.b,4,none⟩=some (ptV X.P):=(AgAt.cell hSW.1 4).trans rfl
  go_simp
  all_goals with_reducible rfl
 go_simp
 refine tK 4 (v:=snV n) rfl (fun W hSW=>exec_load_ag stT rfl rfl rfl hSW.2.1) hS ?_
 go_simp
 refine tK 5 (v:=spV was) rfl (fun W hSW=>exec_load_ag spT rfl rfl rfl hSW.2.2) hS ?_
 go_simp
 refine rD 6 rfl (fun K hK=>?_)
 go_simp
 go_wp2_with (go_at_call 299; refine (move_any n was _ HC.out.tree (okN_wf (HGD.out.node _ _ HOK.out).1) (rightSp_wf (HGD.out.node _ _ HOK.out).2.1).1 (rightSp_wf (HGD.out.node _ _ HOK.out).2.1).2 HC.out.tk HC.out.par).mono ?_; rintro e w5 ⟨rfl,C5,hl5,ht5⟩)
 have HE:=Hi (show Undone X χ g w (.returned (.tuple #[])) w5 from by
  obtain ⟨z,e1,e2,e3⟩:=Gm.back_eq HGD.out HC.out.tk HC.out.hs HOK.out
  rw [e1] at hl5
  exact ⟨rfl,_,_,HC.out.tree' (g':=g) hl5 ht5 e3 e2 rfl HGD.out (fun m hm=>HC.out.dom m (by
   show (Gm.upd g.s n (some sp) m).isSome=true
   unfold Gm.upd
   split
   ·rfl
   ·exact hm)),⟨rfl,rfl,rfl,rfl,rfl,rfl⟩,HG0.out.trans (goes_grown ht5 (by decide) (by decide))⟩)
 refine hK.out _ _ ⟨AgAt.block hS.1 (ht5.block _ (AgAt.lt hS.1) HC.out.b4),AgAt.block hS.2.1 (ht5.block _ (AgAt.lt hS.2.1) (by show ¬ χ nb=4; rw [HX.out.1]; decide)),AgAt.block hS.2.2 (ht5.block _ (AgAt.lt hS.2.2) (by show ¬ χ cb=4; rw [HX.out.2]; decide))⟩ (fun hS=>?_)
 clear hK K hl5 ht5
 refine wpAnyH_done (by kernel_rfl) ?_ _
 go_simp
 clear hS
 go_wp2
 go_end0
 exact HE.out
theorem turned_eq {X:Gx} {g:Gm.G} (hm:∀ m,lookL X.L m=g.m m) (n q m:Qm.St):lookL (turnL X.L n q) m=Gm.upd g.m n (if q=(0,0) then none else some q) m:=by
 rw [lookL_turn,hm]
 rfl
theorem undoPt_any {X:Gx} {χ:Nat→Nat} {g:Gm.G} {nb cb:Nat} {mo:Option Qm.St} (n was:Qm.St) (w:World) (h:Core w X χ ⟨g.s,Gm.upd g.m n mo⟩) (gd:Gm.Good g) (hn:Tm.okN n=true) (h3:(g.m n).getD (0,0)=was) (hb:AgAt w nb (stA n)) (hc:AgAt w cb (stA was)) :
  Calls Tryz.prog 301 #[ptV X.b,ptV nb,ptV cb] w (Undone X χ g w):=by
 have HC:=Hi h
 have HN:=Hi hb
 have HCB:=Hi hc
 have HGD:=Hi gd
 have HWN:=Hi (okN_wf hn)
 have HWS:=Hi (show g.m n=(if was=(0,0) then none else some was)∧StWf was from by
  cases e:g.m n with
  | none =>
   have:was=(0,0):=by rw [← h3,e]; rfl
   rw [if_pos this]
   exact ⟨rfl,by rw [this]; unfold StWf; decide⟩
  | some m =>
   have h5:m=was:=by rw [← h3,e]; rfl
   obtain ⟨s,hs⟩:=Option.isSome_iff_exists.1 (gd.mas _ _ e).2
   have h6:=(gd.node _ _ hs).1
   rw [h5] at h6
   rw [if_neg (fun h0=>by rw [h0] at h6; exact absurd h6 (by decide)),h5]
   exact ⟨rfl,okN_wf h6⟩)
 clear h gd hn h3 hb hc
 go_enter Tryz.func301,Tryz.ntmps301
 go_wp2_with (first | (refine wpList_load_ag stT (by kernel_rfl) _ rfl _ rfl (A:=stA n) rfl HN.out ?_) | (refine wpList_load_ag stT (by kernel_rfl) _ rfl _ rfl (A:=stA was) rfl HCB.out ?_))
 refine (turn_any n was _ HC.out.ms HC.out.at_ rfl rfl HC.out.b5 HWN.out HWS.out.2 HC.out.mw).mono ?_
 rintro e w5 ⟨rfl,D5,hl5,ht5⟩
 have HE:=Hi (show Undone X χ g w (.returned (.tuple #[])) w5 from ⟨rfl,_,_,HC.out.ms' (g':=g) hl5 ht5 (fun m=>by
  rw [turned_eq HC.out.hm,← HWS.out.1]
  show Gm.upd (Gm.upd g.m n mo) n (g.m n) m=g.m m
  rw [Gm.upd_upd,Gm.upd_was rfl]) rfl HGD.out,⟨rfl,rfl,rfl,rfl,rfl,rfl⟩,goes_grown ht5 (by decide) (by decide)⟩)
 clear hl5 ht5
 go_wp2
 go_end0
 exact HE.out
open Go.RowKit
open Tm (Sp Tr has put cut kids)
theorem wpList_updG {P:Program} {ops:Array Oper} {rest:List Oper} {o:Oper} {a:Act} {w w':World} {Q:Exit→Act→World→Prop} (hgd:o.guard=none) (t:TypeId) (x y z:Operand) (ho:o.op=.mapUpdate t x y z) {u v n:Value} (hx:a.eval x=u) (hy:a.eval y=v) (hz:a.eval z=n)
  (hr:(Instr.mapUpdate t u v n).run P w=.ok () w') (h:wpList P ops Q rest (a.put o.dst undef) w'):wpList P ops Q (o :: rest) a w:=by
 refine wpList_plain hgd fun K hK=>?_
 unfold Oper.wp execOp
 simp only [ho,hx,hy,hz,Sem.run_bind,Sem.run_pure,hr,Result.andThen_ok]
 exact hK _ _ h
theorem Rd.stG {w:World} {b o:Nat} {l:List Qm.St} (h:Rd w (some ⟨b,o,none⟩) (stCells l)) (i:Nat) (hi:i<l.length):w.rangeAt b (o+i * 2) [.int .i64 (Qm.stOf l i).1,.int .i64 (Qm.stOf l i).2]:=by
 intro j v hv
 obtain ⟨h0,h1⟩:=stCells_get l i hi
 rw [Nat.add_assoc]
 match j,hv with
 | 0,hv=>exact h.cell (by rw [Nat.add_zero,h0]; exact hv)
 | 1,hv=>exact h.cell (by rw [h1]; exact hv)
theorem wpList_load_stG {w:World} {ops:Array Oper} {rest:List Oper} {o:Oper} {a:Act} {Q:Exit→Act→World→Prop} (hgd:o.guard=none) (y:Operand) (ho:o.op=.load 35 y)
  (b s i:Nat) (hx:a.eval y=.pointer (some ⟨b,s+i * 2,none⟩)) (l:List Qm.St) (hrd:Rd w (some ⟨b,s,none⟩) (stCells l)) (hi:i<l.length)
  (h:wpList Tryz.prog ops Q rest (a.put o.dst (snV (Qm.stOf l i))) w):wpList Tryz.prog ops Q (o :: rest) a w:=by
 obtain ⟨d,hu⟩:=stT.und
 exact wpList_load_mid hgd _ y ho b (s+i * 2) hx [.int .i64 (Qm.stOf l i).1,.int .i64 (Qm.stOf l i).2] _ (hrd.stG i hi) hu rfl stT.size h
theorem stOf_getG {l:List Qm.St} {i:Nat} (h:i<l.length):Qm.stOf l i=l[i]:=by simp [Qm.stOf,List.getD,h]
theorem wpList_buildG {w:World} {ops:Array Oper} {rest:List Oper} {o:Oper} {a:Act} {Q:Exit→Act→World→Prop} (hgd:o.guard=none) (x:Operand) (ho:o.op=.buildSlice 36 1 #[(0,x)]) (s:Qm.St) (hx:a.eval x=snV s)
  (h:wpList Tryz.prog ops Q rest (a.put o.dst (.slice (some ⟨w.heap.size,0,none⟩) 1 1)) (w.alloc (.cells (stA s) 35))):wpList Tryz.prog ops Q (o :: rest) a w:=by
 have hr:(Instr.buildSlice 36 1 #[(0,.agg #[.int .i64 s.1,.int .i64 s.2])]).run Tryz.prog w=.ok (.slice (some ⟨w.heap.size,0,none⟩) 1 1) (w.alloc (.cells #[.int .i64 s.1,.int .i64 s.2] 35)):=by kernel_rfl
 refine wpList_value (by simp [Region.wanted,hgd]) ?_ h
 unfold execOp
 rw [show snV s=.agg #[.int .i64 s.1,.int .i64 s.2] from rfl] at hx
 simp only [ho,Sem.run_bind,Sem.run_pure,Result.andThen_ok,List.map_toArray,List.map_cons,List.map_nil,hx,hr]
theorem own_stG (w:World) (s:Qm.St) (B:Nat) (hB:B≤w.heap.size):(w.alloc (.cells (stA s) 35)).ownsRow B 35 2 (.slice (some ⟨w.heap.size,0,none⟩) 1 1) 1 (stCells [s]) :=
 ⟨rfl,Or.inr ⟨w.heap.size,1,_,rfl,hB,heap_alloc_new w _,Nat.le_refl _,by unfold maxLen; omega,rfl,rfl⟩⟩
theorem own_takeG {w:World} {B k n m:Nat} {E:TypeId} {p:Option Addr} {c:Nat} {xs:List Value} (h:w.ownsRow B E k (.slice p n c) n xs) (hm:m≤n) (hp:p≠none):w.ownsRow B E k (.slice p m c) m (xs.take (m * k)):=by
 obtain ⟨h1,h2 | ⟨g,cap,cur,hv,h3,h4,h5,h6,h7,h8⟩⟩:=h
 ·cases h2.1; exact absurd rfl hp
 ·cases hv
  have hmk:m * k≤n * k:=Nat.mul_le_mul_right k hm
  refine ⟨by rw [List.length_take,h1,Nat.min_eq_left hmk],Or.inr ⟨g,c,cur,rfl,h3,h4,Nat.le_trans hm h5,h6,h7,?_⟩⟩
  rw [← h8,List.take_take,Nat.min_eq_left hmk]
theorem stCells_takeG (l:List Qm.St) (m:Nat):(stCells l).take (m * 2)=stCells (l.take m):=by
 induction l generalizing m with
 | nil=>simp [stCells]
 | cons a l ih =>
  cases m with
  | zero=>simp [stCells]
  | succ m =>
   have e:(m+1) * 2=m * 2+1+1:=by omega
   rw [e]
   simp only [stCells,List.flatMap_cons,List.take_succ_cons] at ih ⊢
   simp only [List.cons_append,List.nil_append,List.take_succ_cons]
   rw [ih m]
theorem stK:RK 35 36 2 16 (fun x:Qm.St=>[Value.int .i64 x.1,.int .i64 x.2]) where
 und:=Tryz.underlying36
 elem:=by kernel_rfl
 size:=fun _=>by kernel_rfl
 info:=by
  have h:(Tryz.prog.info? 35).map (fun i=>(i.zero,i.size,i.bytes))=some (some (.agg #[.int .i64 0,.int .i64 0]),2,16):=by kernel_rfl
  cases hi:Tryz.prog.info? 35 with
  | none=>rw [hi] at h; cases h
  | some i =>
   rw [hi] at h
   simp only [Option.map_some,Option.some.injEq,Prod.mk.injEq] at h
   exact ⟨i,_,rfl,h.1,h.2.1,h.2.2,rfl⟩
 row:=⟨_,Tryz.underlying35⟩
 len:=fun _=>rfl
 one:=fun x u hu=>by
  simp only [List.mem_cons,List.not_mem_nil,or_false] at hu
  rcases hu with rfl | rfl <;> rfl
 pos:=by decide
 small:=by decide
theorem SeqFp.impG {α:Type} {P:Program} {gf:Nat} {lb:Array Value} {enc:α→Value} {S S' Sp Sp':List α→Prop} {F0:Nat→Prop} {w:World} (h:SeqFp P gf lb enc S Sp F0 w) (hS:∀ xs,S xs→S' xs) (hP:∀ xs,Sp xs→Sp' xs):SeqFp P gf lb enc S' Sp' F0 w :=
 fun l J Jx W Fp hW hF hJ hlt hY h0=>(h l J Jx W Fp hW hF hJ hlt (fun pre x F1 W1 hj hs=>hY pre x F1 W1 hj (hP _ hs)) h0).mono fun _ _ ⟨hv,F2,ht,hg,hr⟩ =>
  ⟨hv,F2,ht,hg,hr.imp (fun ⟨xs,h1,h2⟩=>⟨xs,hS _ h1,h2⟩) fun ⟨pre,h1,h2⟩=>⟨pre,hP _ h1,h2⟩⟩
open Go.RowKit
open Tm (Sp Tr has put cut kids)
structure R1 (E SE:TypeId) (z:Value):Prop where
 und:Tryz.prog.underlying SE=some (.slice E)
 elem:Tryz.prog.elem SE=E
 size:∀ W,(sizeOf E).run Tryz.prog W=.ok 1 W
 info:∃ i,Tryz.prog.info? E=some i∧i.zero=some z∧i.size=1∧i.bytes=8
 zc:z.cells.size=1
theorem lineR:R1 162 154 (.pointer none) where
 und:=Tryz.underlying154
 elem:=by kernel_rfl
 size:=fun _=>by kernel_rfl
 info:=by
  have h:(Tryz.prog.info? 162).map (fun i=>(i.zero,i.size,i.bytes))=some (some (.pointer none),1,8):=by kernel_rfl
  cases hi:Tryz.prog.info? 162 with
  | none=>rw [hi] at h; cases h
  | some i =>
   rw [hi] at h
   simp only [Option.map_some,Option.some.injEq,Prod.mk.injEq] at h
   exact ⟨i,rfl,h.1,h.2.1,h.2.2⟩
 zc:=rfl
theorem fnR:R1 164 155 .nilFunc where
 und:=Tryz.underlying155
 elem:=by kernel_rfl
 size:=fun _=>by kernel_rfl
 info:=by
  have h:(Tryz.prog.info? 164).map (fun i=>(i.zero,i.size,i.bytes))=some (some .nilFunc,1,8):=by kernel_rfl
  cases hi:Tryz.prog.info? 164 with
  | none=>rw [hi] at h; cases h
  | some i =>
   rw [hi] at h
   simp only [Option.map_some,Option.some.injEq,Prod.mk.injEq] at h
   exact ⟨i,rfl,h.1,h.2.1,h.2.2⟩
 zc:=rfl
section
variable {E SE:TypeId} {z:Value}
theorem R1.take (V:R1 E SE z) {a:Act} {w:World} {o:Oper} {x y:Operand} (ho:o.op=.slice SE x none (some y) none) {p:Option Addr} {n c i:Nat} (hx:a.eval x=.slice p n c) (hy:a.eval y=.int .i64 (i:Int)) (hi:i≤c) :
  (execOp a.eval o).run Tryz.prog w=.ok (.value (.slice p i c)) w:=by
 have hu:Tryz.prog.underlying SE=some (.slice (Tryz.prog.elem SE)):=by rw [V.elem]; exact V.und
 have hr:(Instr.sliceAt SE (.slice p n c) none (some (.int .i64 (i:Int))) none).run Tryz.prog w=.ok (.slice p i c) w:=by
  rw [run_sliceAt_slice (h:=hu),run_slice_h (ht:=hu) (h0:=by omega) (h2:=by omega),V.elem,V.size]
  cases p <;> simp [Result.andThen_ok,sliced,Addr.add]
 unfold execOp
 simp only [ho,hx,hy,Option.map_some,Option.map_none,Sem.run_bind,hr,Result.andThen_ok,Sem.run_pure]
theorem R1.dropE (V:R1 E SE z) {a:Act} {w:World} {o:Oper} {x y:Operand} (ho:o.op=.slice SE x (some y) none none) {p:Option Addr} {n c i:Nat} (hx:a.eval x=.slice p n c) (hy:a.eval y=.int .i64 (i:Int)) (hi:i≤n) :
  (execOp a.eval o).run Tryz.prog w=.ok (.value (.slice (drA 1 p c i) (n - i) (c - i))) w:=by
 have hu:Tryz.prog.underlying SE=some (.slice (Tryz.prog.elem SE)):=by rw [V.elem]; exact V.und
 have hr:(Instr.sliceAt SE (.slice p n c) (some (.int .i64 (i:Int))) none none).run Tryz.prog w=.ok (.slice (drA 1 p c i) (n - i) (c - i)) w:=by
  rw [run_sliceAt_slice (h:=hu),run_slice_l (ht:=hu) (h0:=by omega) (h1:=by omega),V.elem,V.size]
  simp only [Result.andThen_ok,sliced,drA,Int.toNat_natCast]
 unfold execOp
 simp only [ho,hx,hy,Option.map_some,Option.map_none,Sem.run_bind,hr,Result.andThen_ok,Sem.run_pure]
theorem R1.append (V:R1 E SE z) {w:World} {ops:Array Oper} {o:Oper} {a:Act} {K:Act→World→Prop} {Q:Exit→Act→World→Prop} {X:Prop} (hgd:o.guard=none) (s x:Operand)
  (ho:o.op=.call { callee:=.builtin .append,args:=#[s,x],argTypes:=#[SE,SE] })
  (v:Value) (n:Nat) (xs:List Value) (hs:a.eval s=v) (hown:w.ownsRow 0 E 1 v n xs)
  (q:Option Addr) (m d:Nat) (us:List Value) (hx:a.eval x=.slice q m d) (hus:us.length=m) (hrd:Rd w q us) (hpn:q=none→d=0) (h1:∀ u ∈ us,u.oneCell'=true) (hsz:n+m≤10000)
  (h:∀ p' c' w',w'.ownsRow 0 E 1 (.slice p' (n+m) c') (n+m) (xs ++ us)→w.grownBy w' v.ownBlock→(∀ g,(Value.slice p' (n+m) c').ownBlock=some g→v.ownBlock=some g∨w.heap.size≤g)→K (a.put o.dst (.slice p' (n+m) c')) w') :
  if Region.wanted o (yielded ops a.tmps)=true then Oper.wp Tryz.prog o a w K Q else X:=by
 obtain ⟨i0,hi,hz0,hz1,hz2⟩:=V.info
 exact step_append_sb hgd s x SE ho 0 E i0 z 1 8 V.und hi hz0 hz1 (by decide) hz2 (by decide) V.zc v n xs hs hown q m d us hx (by omega) hrd hpn h1 hsz (Nat.zero_le _) h
theorem own_1 {w:World} {g c n:Nat} {xs:List Value} (h:w.ownsRow 0 E 1 (.slice (some ⟨g,0,none⟩) n c) n xs):∀ i v,xs[i]?=some v→w.cell? ⟨g,i,none⟩=some v:=fun i v hv=>by
 obtain ⟨p2,c2,he,hrd,-⟩:=own_rd h
 cases he
 have:=hrd.cell (i:=i) (u:=v) (by exact hv)
 rwa [Nat.zero_add] at this
end
theorem Uk.one (u:Uk):(Uk.val u).oneCell'=true:=by cases u <;> rfl
theorem own_take1 {w:World} {n m:Nat} {E:TypeId} {p:Option Addr} {c:Nat} {xs:List Value} (h:w.ownsRow 0 E 1 (.slice p n c) n xs) (hm:m≤n) (hp:p≠none):w.ownsRow 0 E 1 (.slice p m c) m (xs.take m):=by
 have:=own_takeG h hm hp
 rwa [Nat.mul_one] at this
theorem Core.cells' {w w':World} {X:Gx} {χ:Nat→Nat} {g:Gm.G} (h:Core w X χ g) (ht:Turns (fun k=>k=X.b) w w') (lk:Int) (po pu:Value) (us:List Uk) (ha:AgAt w' X.b ({ X with lk:=lk,po:=po,pu:=pu,us:=us }:Gx).cells)
  (ro:w.ownsRow 0 162 1 po X.ls.length (X.ls.map fun e=>ptV e.2)) (co:∀ k,po.ownBlock=some k→χ k=2)
  (ru:w.ownsRow 0 164 1 pu us.length (us.map Uk.val)) (cu:∀ k,pu.ownBlock=some k→χ k=3):Core w' { X with lk:=lk,po:=po,pu:=pu,us:=us } χ g:=by
 have hd:∀ k,χ k≠1→¬ k=X.b:=fun k hk e=>hk (by rw [e]; exact h.cb)
 exact ⟨fun k hk=>Nat.lt_of_lt_of_le (h.lt k hk) ht.size,ha,h.cb,ht.own ro fun k hk=>hd k (by rw [co k hk]; decide),co,ht.own ru fun k hk=>hd k (by rw [cu k hk]; decide),cu,
  h.tree.turns ht fun k hk=>hd k (by rw [hk]; decide),h.ms.turns ht fun k hk=>hd k (by rw [hk]; decide),fun e he=>⟨(h.ln e he).1,(h.ln e he).2.block (ht.block _ (h.ln e he).2.lt (hd _ (by rw [(h.ln e he).1]; decide)))⟩,
  h.tk,h.hs,h.hm,h.good,h.ops,h.few,h.dom⟩
theorem Core.setPu {w:World} {X:Gx} {χ:Nat→Nat} {g:Gm.G} (h:Core w X χ g) (pu:Value) (us:List Uk) (ru:w.ownsRow 0 164 1 pu us.length (us.map Uk.val)) (cu:∀ k,pu.ownBlock=some k→χ k=3):Core (w.setCell ⟨X.b,3,none⟩ pu) { X with pu:=pu,us:=us } χ g :=
 h.cells' (set_turns X.b w 3 pu) X.lk X.po pu us (h.at_.put 3 pu) h.ro h.co ru cu
theorem Core.setLk {w:World} {X:Gx} {χ:Nat→Nat} {g:Gm.G} (h:Core w X χ g) (lk:Int):Core (w.setCell ⟨X.b,0,none⟩ (.int .i32 lk)) { X with lk:=lk } χ g :=
 h.cells' (set_turns X.b w 0 _) lk X.po X.pu X.us (h.at_.put 0 _) h.ro h.co h.ru h.cu
theorem goes_set {w:World} {X:Gx} {χ:Nat→Nat} {g:Gm.G} (h:Core w X χ g) (i:Nat) (v:Value):Goes w χ (w.setCell ⟨X.b,i,none⟩ v) χ:=⟨(set_turns X.b w i v).mono fun k _ hk=>by subst hk; rw [h.cb]; decide,fun _ _=>rfl⟩
open Go.RowKit
open Tm (Sp Tr has put cut kids)
theorem wpList_store_part2 {ops:Array Oper} {rest:List Oper} {o:Oper} {a:Act} {w:World} {Q:Exit→Act→World→Prop} (hgd:o.guard=none) (x y:Operand) (ho:o.op=.store 35 x y) (b:Nat) (p:Qm.St) (hx:a.eval x=.pointer (some ⟨b,0,none⟩)) (hy:a.eval y=snV p)
  {s:Sp} (hv:AgAt w b (spA s))
  (h:∀ w':World,AgAt w' b (spA (p,s.2))→Turns (fun k=>k=b) w w'→wpList Tryz.prog ops Q rest (a.put o.dst undef) w'):wpList Tryz.prog ops Q (o :: rest) a w:=by
 have hth:w.there b 0 2:=fun j hj=>⟨by rw [Nat.zero_add,hv.cell]; match j,hj with | 0,_=>simp [spA] | 1,_=>simp [spA],hv.free _⟩
 refine wpList_store_mid hgd 35 x y ho b 0 (stA p) hx hy hth (by kernel_rfl) (stA_one _ _) ?_
 refine h _ ?_ ?_
 ·exact (hv.put 0 (.int .i64 p.1)).put 1 (.int .i64 p.2)
 ·exact (set_turns b w 0 _).trans ((set_turns b _ 1 _).mono fun k _ hk=>Or.inl hk)
def Made (X:Gx) (χ:Nat→Nat) (g':Gm.G) (J:World→(Nat→Nat)→Uk→Prop) (w:World) (e:Ending) (w':World):Prop :=
 ∃ u X' χ',e=.returned (Uk.val u)∧Core w' X' χ' g'∧Like X X'∧Goes w χ w' χ'∧J w' χ' u
def MidM (X:Gx) (χ:Nat→Nat) (g':Gm.G) (n:Qm.St) (w:World) (q:Nat) (v:World):Prop :=
 ∃ X' χ',Core v X' χ' g'∧Like X X'∧Goes w χ v χ'∧χ' q=0∧χ' w.heap.size=0∧w.heap.size<q∧q<v.heap.size∧AgAt v w.heap.size (stA n)
theorem MidM.share {X:Gx} {χ:Nat→Nat} {g':Gm.G} {n:Qm.St} {w v v':World} {q:Nat} (h:MidM X χ g' n w q v) (ht:Turns (fun k=>k=q) v v') :
  ∃ X' χ',Core v' X' χ' g'∧Like X X'∧Goes w χ v' χ'∧χ' q=6∧χ' w.heap.size=6∧AgAt v' w.heap.size (stA n):=by
 obtain ⟨X',χ',hc,hl,hg,h1,h2,h3,h4,h5⟩:=h
 have hne:w.heap.size≠q:=by omega
 have c1:=hc.turns ht (fun k hk e=>by subst e; exact hk h1)
 have c2:=c1.share (b:=q) (Or.inl h1) (Nat.lt_of_lt_of_le h4 ht.size)
 have h2':shared χ' q w.heap.size=0:=(if_neg hne).trans h2
 have c3:=c2.share (b:=w.heap.size) (Or.inl h2') (Nat.lt_of_lt_of_le (by omega) ht.size)
 refine ⟨_,_,c3,hl,((Goes.mk (hg.turns.trans (ht.mono fun k _ hk=>Or.inr (by omega))) hg.keep).share (by omega)).share (Nat.le_refl _),(if_neg hne.symm).trans shared_self,shared_self,h5.block (ht.block _ h5.lt hne)⟩
theorem two_boxG (w:World) (A B:Array Value) (T U:TypeId):AgAt ((w.alloc (.cells A T)).alloc (.cells B U)) w.heap.size A∧AgAt ((w.alloc (.cells A T)).alloc (.cells B U)) (w.heap.size+1) B∧Below w.heap.size w ((w.alloc (.cells A T)).alloc (.cells B U)):=by
 have h1:∀ (w:World) (o:Obj),Below w.heap.size w (w.alloc o):=fun w o=>(Below.refl _ _).alloc (Nat.le_refl _) _
 have k:=AgAt.new (w.alloc (.cells A T)) B U
 rw [World.size_alloc] at k
 exact ⟨(AgAt.new w A T).kept (h1 _ _),k,(h1 _ _).trans ((h1 _ _).mono (by simp))⟩
theorem Core.zero {w:World} {X:Gx} {χ:Nat→Nat} {g:Gm.G} (h:Core w X χ g) {k:Nat} (hk:w.heap.size≤k):χ k=0:=by
 cases e:χ k with
 | zero=>rfl
 | succ n=>have:=h.lt k (by rw [e]; simp); omega
theorem create_any {X:Gx} {χ:Nat→Nat} {g:Gm.G} (n:Qm.St) (s:Sp) (w:World) (h:Core w X χ g) (hn:Tm.okN n=true) (hs:Tm.rightSp s=true) (h3:g.s n=none) (hd:∃ e ∈ X.ls,e.1.s=n) :
  Calls Tryz.prog 247 #[ptV X.b,snV n,spV s] w (Made X χ ⟨Gm.upd g.s n (some (if Gm.has g s.1=true then s.1 else (0,1),s.2)),g.m⟩ (fun w' χ' u=>∃ b,u=.cr b∧χ' b=6∧AgAt w' b (stA n)) w):=by
 obtain ⟨h0,h1,hb⟩:=two_boxG w (stA n) (spA s) 35 106
 have HC:=Hi (Core.kept h hb)
 have HN:=Hi h0
 have HS:=Hi h1
 have HB:=Hi hb
 have HZ:=Hi (And.intro (Core.zero h (Nat.le_refl _)) (And.intro (h.zero (k:=w.heap.size+1) (by omega)) (fun k (hk:χ k≠0)=>h.lt k hk)))
 have HOK:=Hi (And.intro hn (And.intro h3 hd))
 have HR:=Hi hs
 obtain ⟨ib,hhb⟩:∃ b,b=Gm.has g s.1:=⟨_,rfl⟩
 have HHB:=Hi hhb
 have HHAS:=Hi (fun (W:World) (hc:Core W X χ g)=>show Calls Tryz.prog 188 #[.pointer (some ⟨X.P,0,none⟩),snV s.1] W fun e w'=>e=.returned (.bool ib)∧Below W.heap.size W w' from by
  rw [hhb,← hc.hasEq]; exact has_any s.1 W hc.tree (rightSp_wf HR.out).1)
 obtain ⟨sp,hsp⟩:∃ sp:Sp,sp=(if Gm.has g s.1=true then s.1 else (0,1),s.2):=⟨_,rfl⟩
 have HSP:=Hi hsp
 rw [← hsp]
 have HSR:=Hi (show Tm.rightSp sp=true∧Gm.has g sp.1=true from by
  rw [hsp]
  constructor
  ·split
   ·exact hs
   ·exact Gm.rightSp_trash (p:=s.1) hs
  ·show Gm.has g (if Gm.has g s.1=true then s.1 else (0,1))=true
   split
   ·assumption
   ·exact Gm.has_top Gm.top_trash)
 clear h h0 h1 hb hn hs h3 hd hhb hsp
 go_enter Tryz.func247,Tryz.ntmps247
 go_upto_region 1 with fail
 generalize (w.alloc (.cells (stA n) 35)).alloc (.cells (spA s) 106)=w2 at *
 have hbd:=Below.drew (Below.refl w2.heap.size w2)
 replace HC:=Hi (HC.out.kept hbd)
 replace HB:=Hi (HB.out.trans (hbd.mono HB.out.size))
 replace HN:=Hi (AgAt.kept HN.out hbd)
 replace HS:=Hi (AgAt.kept HS.out hbd)
 clear hbd
 refine wp_region_held_drew (S:=fun W=>Below w2.drew.heap.size w2.drew W) (by kernel_rfl) (Below.refl _ _) (fun hS=>?_)
 generalize w2.drew=wd at *
 refine tX 0 rfl hS ?_
 refine tX 1 rfl hS ?_
 refine tX 2 rfl hS ?_
 refine tK 3 (v:=?_) rfl ?_ hS ?_
 rotate_left
 ·intro W hSW
  have y:=(HC.out.kept hSW).cP
  go_simp
  all_goals with_reducible rfl
 go_simp
 refine tX 4 rfl hS ?_
 go_simp
 refine tK 5 (v:=snV s.1) rfl (fun W hSW=>exec_load_part stT rfl rfl [.int .i64 s.1.1,.int .i64 s.1.2] rfl (AgAt.kept HS.out hSW) spPar) hS ?_
 go_simp
 refine rD 6 rfl (fun K hK=>?_)
 go_simp
 go_wp2_with (go_at_call 188; refine (HHAS.out _ HC.out).mono ?_; rintro e w5 ⟨rfl,hb5⟩)
 refine hK.out _ _ (hS.trans (hb5.mono hS.size)) (fun hS=>?_)
 clear hK K hb5
 refine tX 7 rfl hS ?_
 go_simp
 refine wpAnyH_done (by kernel_rfl) ?_ _
 go_simp
 replace HC:=Hi (HC.out.kept hS)
 replace HN:=Hi (AgAt.kept HN.out hS)
 replace HS:=Hi (AgAt.kept HS.out hS)
 replace HB:=Hi (HB.out.trans (hS.mono HB.out.size))
 clear hS HHAS
 go_upto_if 14 with fail
 go_cut [] (fun wx=>Core wx X χ g∧AgAt wx w.heap.size (stA n)∧AgAt wx (w.heap.size+1) (spA sp)∧Below w.heap.size w wx)
 case first =>
  cases ib with
  | true =>
   have HE:=Hi (show sp=s from by rw [HSP.out,if_pos HHB.out.symm])
   go_wp2_with fail
   go_meet
   case rel=>exact ⟨HC.out,HN.out,by rw [HE.out]; exact HS.out,HB.out⟩
  | false =>
   have HE:=Hi (show sp=((0,1),s.2) from by rw [HSP.out,if_neg (by rw [← HHB.out]; simp)])
   go_wp2_with (refine wpList_store_part2 rfl _ _ rfl (w.heap.size+1) (0,1) rfl rfl HS.out ?_; intro w7 hv7 ht7)
   go_meet
   case rel=>exact ⟨HC.out.turns ht7 (fun k hk e=>by have:=HZ.out.2.2 k hk; omega),AgAt.block HN.out (ht7.block _ (AgAt.lt HN.out) (by omega)),by rw [HE.out]; exact hv7,HB.out.trans (ht7.below (fun k _ hk=>by omega) HB.out.size)⟩
 case rest =>
  rename World=>w8
  obtain ⟨hc,hn0,hs0,hb0⟩:=hcut
  clear HC HN HS HB HHB HSP
  have HC:=Hi hc
  have HN:=Hi hn0
  have HS:=Hi hs0
  have HB:=Hi hb0
  clear hc hn0 hs0 hb0
  go_upto_region 3 with fail
  have hbd:=Below.drew (Below.refl w8.heap.size w8)
  replace HC:=Hi (HC.out.kept hbd)
  replace HB:=Hi (HB.out.trans (hbd.mono HB.out.size))
  replace HN:=Hi (AgAt.kept HN.out hbd)
  replace HS:=Hi (AgAt.kept HS.out hbd)
  clear hbd
  refine wp_region_held_drew (S:=fun W=>AgAt W X.b X.cells∧AgAt W w.heap.size (stA n)∧AgAt W (w.heap.size+1) (spA sp)) (by kernel_rfl) ⟨HC.out.at_,HN.out,HS.out⟩ (fun hS=>?_)
  generalize w8.drew=we at *
  refine tX 0 rfl hS ?_
  refine tX 1 rfl hS ?_
  refine tX 2 rfl hS ?_
  refine tK 3 (v:=?_) rfl ?_ hS ?_
  rotate_left
  ·intro W hSW
   have y:W.cell? ⟨X.b,4,none⟩=some (ptV X.P):=(AgAt.cell hSW.1 4).trans rfl
   go_simp
   all_goals with_reducible rfl
  go_simp
  refine tK 4 (v:=snV n) rfl (fun W hSW=>exec_load_ag stT rfl rfl rfl hSW.2.1) hS ?_
  go_simp
  refine tK 5 (v:=spV sp) rfl (fun W hSW=>exec_load_ag spT rfl rfl rfl hSW.2.2) hS ?_
  go_simp
  refine rD 6 rfl (fun K hK=>?_)
  go_simp
  go_wp2_with (go_at_call 296; refine (add_any n sp _ HC.out.tree (okN_wf HOK.out.1) (rightSp_wf HSR.out.1).1 (rightSp_wf HSR.out.1).2).mono ?_; rintro e w9 ⟨rfl,C9,hl9,ht9⟩)
  have HD:=Hi (show ∃ T C χ',Core w9 { X with T:=T,C:=C } χ' ⟨Gm.upd g.s n (some sp),g.m⟩∧Goes w χ w9 χ'∧χ' w.heap.size=0 from by
   obtain ⟨e1,e2⟩:=Gm.add_eq (T:=X.T) HC.out.hs HOK.out.1 HSR.out.1 HOK.out.2.1 HSR.out.2 (Nat.le_trans HC.out.len HC.out.few)
   rw [e1] at hl9
   refine ⟨_,_,_,HC.out.tree' (g':=⟨Gm.upd g.s n (some sp),g.m⟩) hl9 ht9 (HC.out.tk.add HOK.out.1 HSR.out.1 ((HC.out.hs n).trans HOK.out.2.1) (by rw [HC.out.hasEq]; exact HSR.out.2)) e2 rfl (HC.out.good.create HOK.out.1 HSR.out.1 HOK.out.2.1 HSR.out.2) (fun m hm=>?_),(Goes.of_below HB.out).trans (goes_grown ht9 (by decide) (by decide)),(if_pos (AgAt.lt HN.out)).trans HZ.out.1⟩
   by_cases e:m=n
   ·rw [e]; exact HOK.out.2.2
   ·have hm2:(Gm.upd g.s n (some sp) m).isSome=true:=hm
    rw [Gm.upd_ne e] at hm2
    exact HC.out.dom m hm2)
  have HN9:=Hi (AgAt.block hS.2.1 (ht9.block _ (AgAt.lt hS.2.1) (by show ¬ χ w.heap.size=4; rw [HZ.out.1]; decide)))
  refine hK.out _ _ ⟨AgAt.block hS.1 (ht9.block _ (AgAt.lt hS.1) HC.out.b4),HN9.out,AgAt.block hS.2.2 (ht9.block _ (AgAt.lt hS.2.2) (by show ¬ χ (w.heap.size+1)=4; rw [HZ.out.2.1]; decide))⟩ (fun hS=>?_)
  clear hK K hl9 ht9
  refine wpAnyH_done (by kernel_rfl) ?_ _
  go_simp
  have HE:=Hi (show Made X χ ⟨Gm.upd g.s n (some sp),g.m⟩ (fun w' χ' u=>∃ b,u=.cr b∧χ' b=6∧AgAt w' b (stA n)) w (.returned (Uk.val (.cr w.heap.size))) w9 from by
   obtain ⟨T,C,χ',hc,hg,h0⟩:=HD.out
   exact ⟨_,_,_,rfl,hc.share (Or.inl h0) (AgAt.lt HN9.out),⟨rfl,rfl,rfl,rfl,rfl,rfl⟩,hg.share (Nat.le_refl _),_,rfl,shared_self,HN9.out⟩)
  clear hS HD HC HN HS HB
  go_wp2
  go_ret
  exact HE.out
theorem gmove_any {X:Gx} {χ:Nat→Nat} {g:Gm.G} (n:Qm.St) (s was:Sp) (w:World) (h:Core w X χ g) (hn:Tm.okN n=true) (hs:Tm.rightSp s=true) (h3:g.s n=some was) (h4:Gm.has g s.1=true) (hu:¬ Gm.Rc (Gm.UpS g) s.1 n) (hd:¬ Gm.Rc (Gm.DnS g) n s.1) :
  Calls Tryz.prog 249 #[ptV X.b,snV n,spV s] w (Made X χ ⟨Gm.upd g.s n (some s),g.m⟩ (fun w' χ' u=>∃ b c,u=.mv b c was∧χ' b=6∧χ' c=6∧AgAt w' b (stA n)∧AgAt w' c (spA was)) w):=by
 obtain ⟨h0,h1,hb⟩:=two_boxG w (stA n) (spA s) 35 106
 have HC:=Hi (Core.kept h hb)
 have HN:=Hi h0
 have HS:=Hi h1
 have HB:=Hi hb
 have HZ:=Hi (And.intro (Core.zero h (Nat.le_refl _)) (And.intro (h.zero (k:=w.heap.size+1) (by omega)) (fun k (hk:χ k≠0)=>h.lt k hk)))
 have HOK:=Hi (And.intro hn (And.intro h3 (And.intro h4 (And.intro hu hd))))
 have HR:=Hi hs
 clear h h0 h1 hb hn hs h3 h4 hu hd
 go_enter Tryz.func249,Tryz.ntmps249
 go_upto_region 1 with fail
 generalize (w.alloc (.cells (stA n) 35)).alloc (.cells (spA s) 106)=w2 at *
 have hbd:=Below.drew (Below.refl w2.heap.size w2)
 replace HC:=Hi (HC.out.kept hbd)
 replace HB:=Hi (HB.out.trans (hbd.mono HB.out.size))
 replace HN:=Hi (AgAt.kept HN.out hbd)
 replace HS:=Hi (AgAt.kept HS.out hbd)
 clear hbd
 refine wp_region_held_drew (S:=fun W=>AgAt W X.b X.cells∧AgAt W w.heap.size (stA n)∧AgAt W (w.heap.size+1) (spA s)) (by kernel_rfl) ⟨HC.out.at_,HN.out,HS.out⟩ (fun hS=>?_)
 generalize w2.drew=wd at *
 refine tX 0 rfl hS ?_
 refine tX 1 rfl hS ?_
 refine tX 2 rfl hS ?_
 refine tK 3 (v:=?_) rfl ?_ hS ?_
 rotate_left
 ·intro W hSW
  have y:W.cell? ⟨X.b,4,none⟩=some (ptV X.P):=(AgAt.cell hSW.1 4).trans rfl
  go_simp
  all_goals with_reducible rfl
 go_simp
 refine tK 4 (v:=snV n) rfl (fun W hSW=>exec_load_ag stT rfl rfl rfl hSW.2.1) hS ?_
 go_simp
 refine tK 5 (v:=spV s) rfl (fun W hSW=>exec_load_ag spT rfl rfl rfl hSW.2.2) hS ?_
 go_simp
 refine wpAnyH_ready (rs:=[6,10]) (by kernel_rfl) (by simp) ?_
 refine AllReadyH.cons rfl (fun K hK=>?_) (AllReadyH.cons rfl (fun K hK=>?_) AllReadyH.nil)
 ·have HCX:=HC
  have HBX:=HB
  have HNX:=HN
  go_simp
  go_wp2_with (go_at_call 299; refine (move_any n s _ HCX.out.tree (okN_wf HOK.out.1) (rightSp_wf HR.out).1 (rightSp_wf HR.out).2 HCX.out.tk HCX.out.par).mono ?_; rintro e w9 ⟨rfl,C9,hl9,ht9⟩)
  obtain ⟨e1,e2,e3⟩:=Gm.move_eq HCX.out.tk HCX.out.hs HOK.out.1 HR.out HOK.out.2.1 HOK.out.2.2.1 HOK.out.2.2.2.1
  rw [e1] at hl9 ⊢
  have HB9:=Hi (show wd.heap.size≤w9.heap.size from Nat.le_trans (by first | exact Nat.le_refl _ | exact Nat.le_of_lt HQL.out.1) ht9.size)
  have HD:=Hi (And.intro (HCX.out.tree' (g':=⟨Gm.upd g.s n (some s),g.m⟩) hl9 ht9 e3 e2 rfl (HCX.out.good.move HOK.out.1 HR.out (by rw [HOK.out.2.1]; rfl) HOK.out.2.2.1 HOK.out.2.2.2.1 HOK.out.2.2.2.2) (fun m hm=>by
   by_cases e:m=n
   ·rw [e]; exact HCX.out.dom n (by rw [HOK.out.2.1]; rfl)
   ·have hm2:(Gm.upd g.s n (some s) m).isSome=true:=hm
    rw [Gm.upd_ne e] at hm2
    exact HCX.out.dom m hm2)) (goes_grown (d:=4) ht9 (by decide) (by decide)))
  clear e2 e3
  have HN9:=Hi (AgAt.block HNX.out (ht9.block _ (AgAt.lt HNX.out) (by show ¬ χ w.heap.size=4; rw [HZ.out.1]; decide)))
  refine hK.out _ _ ⟨AgAt.block hS.1 (ht9.block _ (AgAt.lt hS.1) HC.out.b4),AgAt.block hS.2.1 (ht9.block _ (AgAt.lt hS.2.1) (by show ¬ χ w.heap.size=4; rw [HZ.out.1]; decide)),AgAt.block hS.2.2 (ht9.block _ (AgAt.lt hS.2.2) (by show ¬ χ (w.heap.size+1)=4; rw [HZ.out.2.1]; decide))⟩ (fun hS=>?_)
  clear hK K hl9 ht9
  refine tX 7 rfl hS ?_
  refine tX 8 rfl hS ?_
  refine tX 9 rfl hS ?_
  go_simp
  refine rD 10 rfl (fun K hK=>?_)
  go_simp
  have hba:=(Below.refl w9.heap.size w9).alloc (Nat.le_refl _) (.cells (#[.int .i64 0,.int .i64 0,.string ⟨#[]⟩]) 106)
  have HM:=Hi (show MidM X χ ⟨Gm.upd g.s n (some s),g.m⟩ n w w9.heap.size (w9.alloc (.cells (#[.int .i64 0,.int .i64 0,.string ⟨#[]⟩]) 106)) from ⟨_,_,HD.out.1.kept hba,⟨rfl,rfl,rfl,rfl,rfl,rfl⟩,((Goes.of_below HBX.out).trans HD.out.2).trans (Goes.of_below hba),HD.out.1.zero (Nat.le_refl _),(HD.out.2.keep _ (AgAt.lt HNX.out)).trans HZ.out.1,AgAt.lt HN9.out,by simp,AgAt.kept HN9.out hba⟩)
  have HQ9:=Hi (AgAt.new w9 (#[.int .i64 0,.int .i64 0,.string ⟨#[]⟩]) 106)
  refine hK.out _ _ ⟨AgAt.kept hS.1 hba,AgAt.kept hS.2.1 hba,AgAt.kept hS.2.2 hba⟩ (fun hS=>?_)
  clear hK K hba
  generalize w9.alloc (.cells (#[.int .i64 0,.int .i64 0,.string ⟨#[]⟩]) 106)=wa at *
  refine rD 11 rfl (fun K hK=>?_)
  refine step_of (by kernel_rfl) ?_
  refine wp_store_ag spT _ _ rfl w9.heap.size rfl _ HQ9.out (A:=spA was) rfl rfl rfl (spA_one _) ?_
  intro w12 hv12 hko12 hsz12 hbn12
  have ht12:=stored_turns hko12 hsz12 hbn12
  have HE:=Hi (show Made X χ ⟨Gm.upd g.s n (some s),g.m⟩ (fun w' χ' u=>∃ b c,u=.mv b c was∧χ' b=6∧χ' c=6∧AgAt w' b (stA n)∧AgAt w' c (spA was)) w (.returned (Uk.val (.mv w.heap.size w9.heap.size was))) w12 from by
   obtain ⟨X',χ',hc,hl,hg,h1,h2,h3⟩:=HM.out.share ht12
   exact ⟨_,_,_,rfl,hc,hl,hg,_,_,rfl,h2,h1,h3,hv12⟩)
  have HQN:=Hi (show X.b≠w9.heap.size∧w.heap.size≠w9.heap.size∧w.heap.size+1≠w9.heap.size from by
   have h1:=HZ.out.2.2 X.b (by rw [HC.out.cb]; decide)
   have h2:=AgAt.lt HS.out
   have h3:=HB9.out
   omega)
  refine hK.out _ _ ⟨AgAt.block hS.1 (ht12.block _ (AgAt.lt hS.1) HQN.out.1),AgAt.block hS.2.1 (ht12.block _ (AgAt.lt hS.2.1) HQN.out.2.1),AgAt.block hS.2.2 (ht12.block _ (AgAt.lt hS.2.2) HQN.out.2.2)⟩ (fun hS=>?_)
  clear hK K hv12 hko12 hsz12 hbn12 ht12 HQN
  refine tX 12 rfl hS ?_
  go_simp
  refine wpAnyH_done (by kernel_rfl) ?_ _
  go_simp
  clear hS HM HD HC HN HS HB
  go_wp2
  go_ret
  exact HE.out
 ·go_simp
  have hba:=(Below.refl wd.heap.size wd).alloc (Nat.le_refl _) (.cells (#[.int .i64 0,.int .i64 0,.string ⟨#[]⟩]) 106)
  have HQ:=Hi (AgAt.new wd (#[.int .i64 0,.int .i64 0,.string ⟨#[]⟩]) 106)
  have HCX:=Hi (HC.out.kept hba)
  have HBX:=Hi (HB.out.trans (hba.mono HB.out.size))
  have HNX:=Hi (AgAt.kept HN.out hba)
  have HQL:=Hi (show wd.heap.size<(wd.alloc (.cells (#[.int .i64 0,.int .i64 0,.string ⟨#[]⟩]) 106)).heap.size∧χ wd.heap.size=0∧w.heap.size<wd.heap.size∧True from ⟨by simp,HC.out.zero (Nat.le_refl _),AgAt.lt HN.out,trivial⟩)
  refine hK.out _ _ ⟨AgAt.kept hS.1 hba,AgAt.kept hS.2.1 hba,AgAt.kept hS.2.2 hba⟩ (fun hS=>?_)
  clear hK K hba
  generalize wd.alloc (.cells (#[.int .i64 0,.int .i64 0,.string ⟨#[]⟩]) 106)=wa at *
  refine rD 6 rfl (fun K hK=>?_)
  go_simp
  go_wp2_with (go_at_call 299; refine (move_any n s _ HCX.out.tree (okN_wf HOK.out.1) (rightSp_wf HR.out).1 (rightSp_wf HR.out).2 HCX.out.tk HCX.out.par).mono ?_; rintro e w9 ⟨rfl,C9,hl9,ht9⟩)
  obtain ⟨e1,e2,e3⟩:=Gm.move_eq HCX.out.tk HCX.out.hs HOK.out.1 HR.out HOK.out.2.1 HOK.out.2.2.1 HOK.out.2.2.2.1
  rw [e1] at hl9 ⊢
  have HB9:=Hi (show wd.heap.size≤w9.heap.size from Nat.le_trans (by first | exact Nat.le_refl _ | exact Nat.le_of_lt HQL.out.1) ht9.size)
  have HD:=Hi (And.intro (HCX.out.tree' (g':=⟨Gm.upd g.s n (some s),g.m⟩) hl9 ht9 e3 e2 rfl (HCX.out.good.move HOK.out.1 HR.out (by rw [HOK.out.2.1]; rfl) HOK.out.2.2.1 HOK.out.2.2.2.1 HOK.out.2.2.2.2) (fun m hm=>by
   by_cases e:m=n
   ·rw [e]; exact HCX.out.dom n (by rw [HOK.out.2.1]; rfl)
   ·have hm2:(Gm.upd g.s n (some s) m).isSome=true:=hm
    rw [Gm.upd_ne e] at hm2
    exact HCX.out.dom m hm2)) (goes_grown (d:=4) ht9 (by decide) (by decide)))
  clear e2 e3
  have HN9:=Hi (AgAt.block HNX.out (ht9.block _ (AgAt.lt HNX.out) (by show ¬ χ w.heap.size=4; rw [HZ.out.1]; decide)))
  have HM:=Hi (show MidM X χ ⟨Gm.upd g.s n (some s),g.m⟩ n w wd.heap.size w9 from ⟨_,_,HD.out.1,⟨rfl,rfl,rfl,rfl,rfl,rfl⟩,(Goes.of_below HBX.out).trans HD.out.2,(HD.out.2.keep _ HQL.out.1).trans HQL.out.2.1,(HD.out.2.keep _ (AgAt.lt HNX.out)).trans HZ.out.1,HQL.out.2.2.1,Nat.lt_of_lt_of_le HQL.out.1 HD.out.2.turns.size,HN9.out⟩)
  have HQ9:=Hi (AgAt.block HQ.out (ht9.block _ (AgAt.lt HQ.out) (by show ¬ χ wd.heap.size=4; rw [HQL.out.2.1]; decide)))
  refine hK.out _ _ ⟨AgAt.block hS.1 (ht9.block _ (AgAt.lt hS.1) HC.out.b4),AgAt.block hS.2.1 (ht9.block _ (AgAt.lt hS.2.1) (by show ¬ χ w.heap.size=4; rw [HZ.out.1]; decide)),AgAt.block hS.2.2 (ht9.block _ (AgAt.lt hS.2.2) (by show ¬ χ (w.heap.size+1)=4; rw [HZ.out.2.1]; decide))⟩ (fun hS=>?_)
  clear hK K hl9 ht9
  refine tX 7 rfl hS ?_
  refine tX 8 rfl hS ?_
  refine tX 9 rfl hS ?_
  go_simp
  refine rD 11 rfl (fun K hK=>?_)
  refine step_of (by kernel_rfl) ?_
  refine wp_store_ag spT _ _ rfl wd.heap.size rfl _ HQ9.out (A:=spA was) rfl rfl rfl (spA_one _) ?_
  intro w12 hv12 hko12 hsz12 hbn12
  have ht12:=stored_turns hko12 hsz12 hbn12
  have HE:=Hi (show Made X χ ⟨Gm.upd g.s n (some s),g.m⟩ (fun w' χ' u=>∃ b c,u=.mv b c was∧χ' b=6∧χ' c=6∧AgAt w' b (stA n)∧AgAt w' c (spA was)) w (.returned (Uk.val (.mv w.heap.size wd.heap.size was))) w12 from by
   obtain ⟨X',χ',hc,hl,hg,h1,h2,h3⟩:=HM.out.share ht12
   exact ⟨_,_,_,rfl,hc,hl,hg,_,_,rfl,h2,h1,h3,hv12⟩)
  have HQN:=Hi (show X.b≠wd.heap.size∧w.heap.size≠wd.heap.size∧w.heap.size+1≠wd.heap.size from by
   have h1:=HZ.out.2.2 X.b (by rw [HC.out.cb]; decide)
   have h2:=AgAt.lt HS.out
   have h3:=h2
   omega)
  refine hK.out _ _ ⟨AgAt.block hS.1 (ht12.block _ (AgAt.lt hS.1) HQN.out.1),AgAt.block hS.2.1 (ht12.block _ (AgAt.lt hS.2.1) HQN.out.2.1),AgAt.block hS.2.2 (ht12.block _ (AgAt.lt hS.2.2) HQN.out.2.2)⟩ (fun hS=>?_)
  clear hK K hv12 hko12 hsz12 hbn12 ht12 HQN
  refine tX 12 rfl hS ?_
  go_simp
  refine wpAnyH_done (by kernel_rfl) ?_ _
  go_simp
  clear hS HM HD HC HN HS HB
  go_wp2
  go_ret
  exact HE.out
theorem gpoint_any {X:Gx} {χ:Nat→Nat} {g:Gm.G} (n q:Qm.St) (w:World) (h:Core w X χ g) (hn:Tm.okN n=true) (hq:Tm.okN q=true∨q=(0,0)) (hgood:Gm.Good ⟨g.s,Gm.upd g.m n (if q=(0,0) then none else some q)⟩) :
  Calls Tryz.prog 250 #[ptV X.b,snV n,snV q] w (Made X χ ⟨g.s,Gm.upd g.m n (if q=(0,0) then none else some q)⟩ (fun w' χ' u=>∃ b c was,u=.pt b c was∧χ' b=6∧χ' c=6∧AgAt w' b (stA n)∧AgAt w' c (stA was)∧(g.m n).getD (0,0)=was) w):=by
 obtain ⟨h0,h1,hb⟩:=two_boxG w (stA n) (stA q) 35 35
 have HC:=Hi (Core.kept h hb)
 have HN:=Hi h0
 have HS:=Hi h1
 have HB:=Hi hb
 have HZ:=Hi (And.intro (Core.zero h (Nat.le_refl _)) (And.intro (h.zero (k:=w.heap.size+1) (by omega)) (fun k (hk:χ k≠0)=>h.lt k hk)))
 have HOK:=Hi hn
 have HGD:=Hi hgood
 have HWQ:=Hi (show StWf q from by
  rcases hq with hq | hq
  ·exact okN_wf hq
  ·rw [hq]; unfold StWf; decide)
 obtain ⟨was,hwas⟩:∃ s,s=(g.m n).getD (0,0):=⟨_,rfl⟩
 have HWAS:=Hi hwas
 have HLK:=Hi (fun (W:World) (hc:Core W X χ g)=>show (Instr.lookup 145 (.map (some X.M3)) (snV n) false).run Tryz.prog W=.ok (snV was) W from by
  rw [hc.ms.look0 n (okN_wf HOK.out),hc.hm,hwas])
 generalize hG:(⟨g.s,Gm.upd g.m n (if q=(0,0) then none else some q)⟩:Gm.G)=G2 at *
 generalize hJ:(fun (w':World) (χ':Nat→Nat) (u:Uk)=>∃ b c was,u=.pt b c was∧χ' b=6∧χ' c=6∧AgAt w' b (stA n)∧AgAt w' c (stA was)∧(g.m n).getD (0,0)=was)=J
 have HG:=Hi hG
 have HJ:=Hi hJ
 clear h h0 h1 hb hn hq hgood hwas hG hJ
 go_enter Tryz.func250,Tryz.ntmps250
 go_upto_region 1 with fail
 generalize (w.alloc (.cells (stA n) 35)).alloc (.cells (stA q) 35)=w2 at *
 have hbd:=Below.drew (Below.refl w2.heap.size w2)
 replace HC:=Hi (HC.out.kept hbd)
 replace HB:=Hi (HB.out.trans (hbd.mono HB.out.size))
 replace HN:=Hi (AgAt.kept HN.out hbd)
 replace HS:=Hi (AgAt.kept HS.out hbd)
 clear hbd
 refine wp_region_held_drew (S:=fun W=>Below w2.drew.heap.size w2.drew W) (by kernel_rfl) (Below.refl _ _) (fun hS=>?_)
 generalize w2.drew=wd at *
 refine tX 0 rfl hS ?_
 refine tX 1 rfl hS ?_
 refine tX 2 rfl hS ?_
 refine tK 3 (v:=?_) rfl ?_ hS ?_
 rotate_left
 ·intro W hSW
  have y:=(HC.out.kept hSW).c3
  go_simp
  all_goals with_reducible rfl
 go_simp
 refine tK 4 (v:=snV n) rfl (fun W hSW=>exec_load_ag stT rfl rfl rfl (AgAt.kept HN.out hSW)) hS ?_
 go_simp
 refine tK 5 (v:=snV was) rfl (fun W hSW=>exec_lookup rfl rfl rfl (HLK.out W (HC.out.kept hSW))) hS ?_
 go_simp
 refine rD 6 rfl (fun K hK=>?_)
 go_simp
 have hba:=(Below.refl wd.heap.size wd).alloc (Nat.le_refl _) (.cells #[.int .i64 0,.int .i64 0] 35)
 have HS0:=Hi hS
 refine hK.out _ _ (hS.trans (hba.mono hS.size)) (fun hS=>?_)
 clear hK K hba
 refine rD 7 rfl (fun K hK=>?_)
 refine step_of (by kernel_rfl) ?_
 refine wp_store_newag stT _ _ rfl rfl _ (A:=stA was) rfl rfl rfl (stA_one _ _) ?_
 intro w5 hv5 hb5
 have HV5:=Hi hv5
 refine hK.out _ _ (HS0.out.trans (hb5.mono HS0.out.size)) (fun hS=>?_)
 clear hK K hv5 hb5
 refine wpAnyH_done (by kernel_rfl) ?_ _
 go_simp
 have HQL:=Hi (show w.heap.size<wd.heap.size from AgAt.lt HN.out)
 have HQZ:=Hi (HC.out.zero (Nat.le_refl wd.heap.size))
 replace HC:=Hi (HC.out.kept hS)
 replace HN:=Hi (AgAt.kept HN.out hS)
 replace HS:=Hi (AgAt.kept HS.out hS)
 replace HB:=Hi (HB.out.trans (hS.mono HB.out.size))
 clear hS HS0 HLK
 generalize wd.heap.size=qb at *
 go_wp2_with (first | (refine wpList_load_ag stT (by kernel_rfl) _ rfl _ rfl (A:=stA n) rfl HN.out ?_) | (refine wpList_load_ag stT (by kernel_rfl) _ rfl _ rfl (A:=stA q) rfl HS.out ?_))
 refine (turn_any n q _ HC.out.ms HC.out.at_ rfl rfl HC.out.b5 (okN_wf HOK.out) HWQ.out HC.out.mw).mono ?_
 rintro e w9 ⟨rfl,D9,hl9,ht9⟩
 have HE:=Hi (show Made X χ G2 J w (.returned (Uk.val (.pt w.heap.size qb was))) w9 from by
  have hgd:=HGD.out
  rw [← HG.out] at hgd ⊢
  rw [← HJ.out]
  have hc:=HC.out.ms' (g':=⟨g.s,Gm.upd g.m n (if q=(0,0) then none else some q)⟩) hl9 ht9 (fun m=>turned_eq HC.out.hm n q m) rfl hgd
  have hg:=(Goes.of_below HB.out).trans (goes_grown (d:=5) ht9 (by decide) (by decide))
  have k1:=(goes_grown (d:=5) ht9 (by decide) (by decide)).keep _ (AgAt.lt HN.out)
  have k2:=(goes_grown (d:=5) ht9 (by decide) (by decide)).keep _ (AgAt.lt HV5.out)
  have c1:=AgAt.block HN.out (ht9.block _ (AgAt.lt HN.out) (by show ¬ χ w.heap.size=5; rw [HZ.out.1]; decide))
  have c2:=AgAt.block HV5.out (ht9.block _ (AgAt.lt HV5.out) (by show ¬ χ qb=5; rw [HQZ.out]; decide))
  have hql:=HQL.out
  obtain ⟨X',χ',d1,d2,d3,d4,d5,d6⟩:=MidM.share (q:=qb) (X:=X) (χ:=χ) (n:=n) ⟨_,_,hc,⟨rfl,rfl,rfl,rfl,rfl,rfl⟩,hg,k2.trans HQZ.out,k1.trans HZ.out.1,HQL.out,AgAt.lt c2,c1⟩ (Turns.refl _ _)
  exact ⟨_,_,_,rfl,d1,d2,d3,_,_,_,rfl,d5,d4,d6,c2,HWAS.out.symm⟩)
 clear hl9 ht9 HC HN HS HB HV5
 go_wp2
 go_ret
 exact HE.out
end Go.Proofs.YthfhefdfehlbkaaGreat
