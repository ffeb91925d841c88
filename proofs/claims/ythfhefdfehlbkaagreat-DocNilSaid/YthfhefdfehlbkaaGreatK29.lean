/-
  A GRAPH's LOOKS: Has, Spot, Ref, Reaches.
  No conditions but sizes.
  A GRAPH's LOOKS that answer rows: Nodes, Above, Row.
  No conditions but sizes.
  New: an empty graph.
  No conditions.
-/
import Derived.Test.YthfhefdfehlbkaaGreatSh
import Derived.Test.YthfhefdfehlbkaaGreatK23
import Derived.Test.YthfhefdfehlbkaaGreatK20
import Derived.Test.YthfhefdfehlbkaaGreatK28
set_option maxRecDepth 100000
set_option maxHeartbeats 4000000
namespace Go.Proofs.YthfhefdfehlbkaaGreat
open Go.RowKit
open Tm (Sp Tr has put cut kids)
theorem wp_store_agG {t:TypeId} {n:Nat} {A:Array Value} {w:World} (V:AgT t n) {o:Oper} {a:Act} {K:Act→World→Prop} {Q:Exit→Act→World→Prop} (x y:Operand) (ho:o.op=.store t x y)
  (b:Nat) (hx:a.eval x=.pointer (some ⟨b,0,none⟩)) (u:Array Value) (hv:AgAt w b u) (hy:a.eval y=.agg A) (hu:u.size=n) (hn:A.size=n) (h1:A.all (·.oneCell')=true)
  (h:∀ w':World,AgAt w' b A→(∀ k,k≠b→w'.heap[k]?=w.heap[k]?)→w'.heap.size=w.heap.size→(∀ B w0,Below B w0 w→B≤b→Below B w0 w')→K (a.put o.dst undef) w'):Oper.wp Tryz.prog o a w K Q:=by
 obtain ⟨T,hv⟩:=hv
 have hr:(storeVar t ⟨b,0,none⟩ (.agg A)).run Tryz.prog w=.ok () (w.setRow b A):=run_storeVar_row w b T t u A hv (by rw [hn]; exact V.size) (by rw [hu,hn]) h1
 have hk:K (a.put o.dst undef) (w.setRow b A):=by
  refine h _ ⟨T,setRow_heap w b _ _ T _ hv⟩ (fun k hk=>setRow_other w b k _ hk) (by simp) ?_
  intro B w0 hb hB
  exact hb.trans ⟨rfl,rfl,rfl,by simp,fun k hk=>setRow_other w b k _ (by omega)⟩
 unfold Oper.wp execOp
 simp only [ho,hx,hy,Instr.storeAt,Instr.sureAddr,Sem.run_bind,Sem.run_pure,Result.andThen_ok,hr]
 exact hk
structure Nowd (gg:Nat) (ops:List Pm.Wr) (χ:Nat→Nat) (w w5:World) (X:Gx) (χ1:Nat→Nat):Prop where
 core:Core w5 X χ1 (Gm.run ops)
 gra:Gra w5 gg ops χ1
 goes:Goes w χ w5 χ1
theorem nowd_of {gg:Nat} {ops:List Pm.Wr} {χ χ1:Nat→Nat} {w w0 w5:World} {X:Gx} (hb:Below w.heap.size w w0) (hz:χ gg=0∨χ gg=6) (hg:Grf w5 X χ1) (hf:Full X) (hl:X.lk=0) (ho:X.ops=ops) (ha:AgAt w5 gg #[ptV X.b]) (hgg:χ1 gg=χ gg) (hgo:Goes w0 χ w5 χ1):Nowd gg ops χ w w5 X χ1 :=
 ⟨by rw [← ho]; exact hg.full hf,by rw [← ho]; exact gra_of hg hl ha (by rw [hgg]; exact hz),(Goes.of_below hb).trans hgo⟩
theorem Nowd.left {gg:Nat} {ops:List Pm.Wr} {χ χ1:Nat→Nat} {w w5:World} {X:Gx} (h:Nowd gg ops χ w w5 X χ1):Left gg ops χ w w5:=⟨χ1,h.gra,h.goes⟩
theorem Nowd.kept {gg:Nat} {ops:List Pm.Wr} {χ χ1:Nat→Nat} {w w5 w6:World} {X:Gx} (h:Nowd gg ops χ w w5 X χ1) (hb:Below w5.heap.size w5 w6):Nowd gg ops χ w w6 X χ1:=⟨h.core.kept hb,h.gra.kept hb,h.goes.trans (Goes.of_below hb)⟩
theorem Nowd.turned {gg:Nat} {ops:List Pm.Wr} {χ χ1:Nat→Nat} {w w6 w7:World} {X:Gx} {b:Nat} (h:Nowd gg ops χ w w6 X χ1) (hz:χ1 b=0) (hbw:w.heap.size≤b) (hgg:gg<w.heap.size) (ht:Turns (fun k=>k=b) w6 w7):Nowd gg ops χ w w7 X χ1 :=
 ⟨h.core.turns ht fun k hk e=>hk (by rw [show k=b from e]; exact hz),h.gra.turns ht (fun k hk e=>hk (by rw [show k=b from e]; exact hz)) fun e=>by have:gg=b:=e; omega,h.goes.turns.trans (ht.mono fun k _ hk=>Or.inr (by have:k=b:=hk; omega)),h.goes.keep⟩
theorem turns_of_store {w6 w7:World} {b:Nat} (hk:∀ k,k≠b→w7.heap[k]?=w6.heap[k]?) (hs:w7.heap.size=w6.heap.size) (hb:∀ B w0,Below B w0 w6→B≤b→Below B w0 w7):Turns (fun k=>k=b) w6 w7:=by
 have h1:=hb 0 w6 ((Below.refl w6.heap.size w6).mono (Nat.zero_le _)) (Nat.zero_le _)
 exact ⟨h1.os,h1.tape,h1.output,by omega,fun k _ h=>hk k h⟩
theorem Left.below {gg:Nat} {ops:List Pm.Wr} {χ:Nat→Nat} {w w1 w2:World} (h:Left gg ops χ w w1) (hb:Below w1.heap.size w1 w2):Left gg ops χ w w2:=by
 obtain ⟨χ2,k1,k2⟩:=h
 exact ⟨χ2,k1.kept hb,k2.trans (Goes.of_below hb)⟩
theorem ghas_any {gg:Nat} {ops:List Pm.Wr} {χ:Nat→Nat} (s:Qm.St) (w:World) (h:Gra w gg ops χ) (hn:StWf s):Calls Tryz.prog 103 #[ptV gg,snV s] w fun e w'=>e=.returned (.bool (Gm.has (Gm.run ops) s))∧Left gg ops χ w w':=by
 have hb:=((Below.refl w.heap.size w).alloc (Nat.le_refl _) (.cells (stA s) 35)).drew
 have HC:=Hi (h.kept hb)
 have HN:=Hi ((AgAt.new w (stA s) 35).kept (Below.drew (Below.refl _ _)))
 have HB:=Hi hb
 have HZ:=Hi (show χ w.heap.size=0 from by obtain ⟨⟨X,h1,h2,h3,h4⟩,-⟩:=h; exact h2.toCore.zero (Nat.le_refl _))
 have HGZ:=Hi h.gz
 have HWN:=Hi hn
 have hgb:∃ b,AgAt (w.alloc (.cells (stA s) 35)).drew gg #[ptV b]:=by
  obtain ⟨⟨X,h1,-⟩,-⟩:=h
  exact ⟨_,h1.kept hb⟩
 obtain ⟨b0,hgb⟩:=hgb
 have HGB:=Hi hgb
 obtain ⟨ib,hib⟩:∃ b,b=Gm.has (Gm.run ops) s:=⟨_,rfl⟩
 have HIB:=Hi hib
 have HHAS:=Hi (fun (W:World) (X:Gx) (χ:Nat→Nat) (hc:Core W X χ (Gm.run ops))=>show Calls Tryz.prog 188 #[.pointer (some ⟨X.P,0,none⟩),snV s] W fun e w'=>e=.returned (.bool ib)∧Below W.heap.size W w' from by
  rw [hib,← hc.hasEq]; exact has_any _ W hc.tree HWN.out)
 rw [← hib]
 clear h hb hgb hn hib
 go_enter Tryz.func103,Tryz.ntmps103
 go_upto_region 1 with fail
 refine wp_region_held_drew (S:=fun W=>AgAt W w.heap.size (stA s)) (by kernel_rfl) HN.out (fun hS=>?_)
 clear HN
 generalize (w.alloc (.cells (stA s) 35)).drew=wd at *
 refine tX 0 rfl hS ?_
 go_simp
 refine rD 1 rfl (fun K hK=>?_)
 go_simp
 go_wp2_with (go_at_call 77; refine (gours_any _ HGB.out).mono ?_; rintro e w1 ⟨rfl,rfl⟩)
 refine hK.out _ _ hS (fun hS=>?_)
 clear hK K
 refine tX 2 rfl hS ?_
 refine tX 3 rfl hS ?_
 go_simp
 refine tK 8 (v:=snV s) rfl (fun W hSW=>exec_load_ag stT rfl rfl rfl hSW) hS ?_
 go_simp
 refine rD 4 rfl (fun K hK=>?_)
 go_simp
 go_wp2_with (go_at_call 78; refine (gnow_any _ HC.out).mono ?_; rintro e w5 ⟨X,χ1,rfl,hg,hf,hl,ho,ha,hgg,hgo⟩)
 have HND:=Hi (nowd_of HB.out HGZ.out hg hf hl ho ha hgg hgo)
 have y5:w5.cell? ⟨X.b,4,none⟩=some (ptV X.P):=HND.out.core.cP
 have hs5:=hS.block (hgo.turns.block _ (AgAt.lt hS) (by rw [HZ.out]; decide))
 refine hK.out _ _ hs5 (fun hS=>?_)
 clear hK K hg hf hl ho ha hgg hgo hs5 HC HB HGZ HZ
 refine tX 5 rfl hS ?_
 refine tX 6 rfl hS ?_
 go_simp
 refine rD 7 rfl (fun K hK=>?_)
 go_simp
 refine hK.out _ _ hS (fun hS=>?_)
 clear hK K
 refine rD 9 rfl (fun K hK=>?_)
 go_simp
 go_wp2_with (go_at_call 188; refine (HHAS.out w5 X χ1 HND.out.core).mono ?_; rintro e w6 ⟨rfl,hb6⟩)
 have HE:=Hi (HND.out.left.below hb6)
 refine hK.out _ _ (AgAt.kept hS hb6) (fun hS=>?_)
 clear hK K hb6 y5 HND HHAS
 refine tX 10 rfl hS ?_
 refine tX 11 rfl hS ?_
 go_simp
 refine wpAnyH_done (by kernel_rfl) ?_ _
 go_simp
 clear hS HGB
 go_wp2
 go_ret
 exact ⟨rfl,HE.out⟩
theorem gspot_any {gg:Nat} {ops:List Pm.Wr} {χ:Nat→Nat} (s:Qm.St) (w:World) (h:Gra w gg ops χ) (hn:StWf s):Calls Tryz.prog 74 #[ptV gg,snV s] w fun e w'=>e=.returned (.tuple #[.agg (spA (((Gm.run ops).s s).getD zS)),.bool ((Gm.run ops).s s).isSome])∧Left gg ops χ w w':=by
 have h1:∀ (w:World) (o:Obj),Below w.heap.size w (w.alloc o):=fun w o=>(Below.refl _ _).alloc (Nat.le_refl _) _
 have hb:=((h1 w (.cells (stA s) 35)).trans ((h1 (w.alloc (.cells (stA s) 35)) (.cells #[.int .i64 0,.int .i64 0,.string ⟨#[]⟩] 106)).mono (by simp)))
 have HB0:=Hi ((AgAt.new w (stA s) 35).kept (h1 _ (.cells #[.int .i64 0,.int .i64 0,.string ⟨#[]⟩] 106)))
 have HB1:=Hi (show AgAt ((w.alloc (.cells (stA s) 35)).alloc (.cells #[.int .i64 0,.int .i64 0,.string ⟨#[]⟩] 106)) (w.heap.size+1) #[.int .i64 0,.int .i64 0,.string ⟨#[]⟩] from by
  have:=AgAt.new (w.alloc (.cells (stA s) 35)) #[.int .i64 0,.int .i64 0,.string ⟨#[]⟩] 106
  rw [show (w.alloc (.cells (stA s) 35)).heap.size=w.heap.size+1 from by simp] at this
  exact this)
 have HC:=Hi (h.kept hb)
 have HB:=Hi hb
 have HZ:=Hi (show χ w.heap.size=0∧χ (w.heap.size+1)=0 from by obtain ⟨⟨X,h1,h2,h3,h4⟩,-⟩:=h; exact ⟨h2.toCore.zero (Nat.le_refl _),h2.toCore.zero (by omega)⟩)
 have HGZ:=Hi h.gz
 have HGL:=Hi h.lt
 have HWN:=Hi hn
 have hgb:∃ b,AgAt ((w.alloc (.cells (stA s) 35)).alloc (.cells #[.int .i64 0,.int .i64 0,.string ⟨#[]⟩] 106)) gg #[ptV b]:=by
  obtain ⟨⟨X,h1,-⟩,-⟩:=h
  exact ⟨_,h1.kept hb⟩
 obtain ⟨b0,hgb⟩:=hgb
 have HGB:=Hi hgb
 obtain ⟨ib,hib⟩:∃ b,b=((Gm.run ops).s s).isSome:=⟨_,rfl⟩
 obtain ⟨va,hva⟩:∃ v,v=((Gm.run ops).s s).getD zS:=⟨_,rfl⟩
 have HSPOT:=Hi (fun (W:World) (X:Gx) (χ:Nat→Nat) (hc:Core W X χ (Gm.run ops))=>show Calls Tryz.prog 155 #[.pointer (some ⟨X.P,0,none⟩),snV s] W fun e w'=>e=.returned (.tuple #[.agg (spA va),.bool ib])∧Below W.heap.size W w' from by
  rw [hib,hva,← hc.hs]; exact spot_any s W hc.tree HWN.out)
 rw [← hib,← hva]
 clear h hb hgb hn hib hva h1
 go_enter Tryz.func74,Tryz.ntmps74
 go_upto_region 3 with (go_at_call 77; refine (gours_any _ HGB.out).mono ?_; rintro e w1 ⟨rfl,rfl⟩)
 generalize (w.alloc (.cells (stA s) 35)).alloc (.cells #[.int .i64 0,.int .i64 0,.string ⟨#[]⟩] 106)=w1 at *
 have hbd:=Below.drew (Below.refl w1.heap.size w1)
 replace HC:=Hi (HC.out.kept hbd)
 replace HB0:=Hi (AgAt.kept HB0.out hbd)
 replace HB1:=Hi (AgAt.kept HB1.out hbd)
 replace HB:=Hi (HB.out.trans (hbd.mono HB.out.size))
 refine wp_region_held_drew (S:=fun W=>AgAt W w.heap.size (stA s)) (by kernel_rfl) HB0.out (fun hS=>?_)
 clear hbd HB0 HGB
 generalize w1.drew=wd at *
 refine tX 0 rfl hS ?_
 go_simp
 refine tK 5 (v:=snV s) rfl (fun W hSW=>exec_load_ag stT rfl rfl rfl hSW) hS ?_
 go_simp
 refine rD 1 rfl (fun K hK=>?_)
 go_simp
 go_wp2_with (go_at_call 78; refine (gnow_any _ HC.out).mono ?_; rintro e w5 ⟨X,χ1,rfl,hg,hf,hl,ho,ha,hgg,hgo⟩)
 have HND:=Hi (nowd_of HB.out HGZ.out hg hf hl ho ha hgg hgo)
 have y5:w5.cell? ⟨X.b,4,none⟩=some (ptV X.P):=HND.out.core.cP
 have hs5:=hS.block (hgo.turns.block _ (AgAt.lt hS) (by rw [HZ.out.1]; decide))
 refine hK.out _ _ hs5 (fun hS=>?_)
 have HB5:=Hi (HB1.out.block (hgo.turns.block _ (AgAt.lt HB1.out) (by rw [HZ.out.2]; decide)))
 have HZ5:=Hi ((hgo.keep _ (AgAt.lt HB1.out)).trans HZ.out.2)
 have HSZ:=Hi (show w.heap.size<w.heap.size+1 from by omega)
 clear hK K HB1 hg hf hl ho ha hgg hgo hs5 HC HB HGZ HZ
 refine tX 2 rfl hS ?_
 refine tX 3 rfl hS ?_
 go_simp
 refine rD 4 rfl (fun K hK=>?_)
 go_simp
 refine hK.out _ _ hS (fun hS=>?_)
 clear hK K
 refine rD 6 rfl (fun K hK=>?_)
 go_simp
 go_wp2_with (go_at_call 155; refine (HSPOT.out w5 X χ1 HND.out.core).mono ?_; rintro e w6 ⟨rfl,hb6⟩)
 have HE:=Hi (HND.out.kept hb6)
 have HB6:=Hi (AgAt.kept HB5.out hb6)
 refine hK.out _ _ (AgAt.kept hS hb6) (fun hS=>?_)
 clear hK K hb6 y5 HND HSPOT HB5
 refine tX 7 rfl hS ?_
 refine tX 8 rfl hS ?_
 go_simp
 refine rD 9 rfl (fun K hK=>?_)
 refine step_of (by kernel_rfl) ?_
 refine wp_store_agG spT _ _ rfl _ rfl _ HB6.out rfl rfl rfl (spA_one _) ?_
 intro w7 hv7 hk7 hs7 hb7
 have HV7:=Hi hv7
 have HE7:=Hi ((HE.out.turned HZ5.out (by omega) HGL.out (turns_of_store hk7 hs7 hb7)).left)
 refine hK.out _ _ (AgAt.block hS (hk7 _ (by omega))) (fun hS=>?_)
 clear hK K hk7 hs7 hb7 HE HB6
 refine tX 10 rfl hS ?_
 go_simp
 refine wpAnyH_done (by kernel_rfl) ?_ _
 go_simp
 clear hS
 go_wp2
 refine bodyPost_ret (results_two spT _ rfl rfl hv7 rfl rfl) rfl ?_
 exact ⟨rfl,HE7.out⟩
open Go.RowKit
open Tm (Sp Tr has put cut kids)
def LeftR (gg:Nat) (ops:List Pm.Wr) (χ:Nat→Nat) (p:Option Addr) (cs:List Value) (w w':World):Prop:=∃ χ',Gra w' gg ops χ'∧Goes w χ w' χ'∧Rd w' p cs∧∀ a,p=some a→w.heap.size≤a.block∧χ' a.block=0
structure TreeG (ops:List Pm.Wr) (T:Tr):Prop where
 ok:Tm.Ok T
 lk:∀ n,Tm.look T n=(Gm.run ops).s n
 few:T.length≤80
theorem Core.small {w:World} {X:Gx} {χ:Nat→Nat} {g:Gm.G} (h:Core w X χ g):X.T.length≤80:=Nat.le_trans h.len h.few
theorem Core.treeG {w:World} {X:Gx} {χ:Nat→Nat} {ops:List Pm.Wr} (h:Core w X χ (Gm.run ops)):TreeG ops X.T:=⟨h.tk,h.hs,h.small⟩
theorem leftR_of {gg:Nat} {ops:List Pm.Wr} {χ χ1:Nat→Nat} {w w5 w6:World} {X:Gx} {p:Option Addr} {cs:List Value} (h:Nowd gg ops χ w w5 X χ1) (hb:Below w5.heap.size w5 w6) (hr:Rd w6 p cs) (hp:∀ a,p=some a→w5.heap.size≤a.block):LeftR gg ops χ p cs w w6 :=
 ⟨χ1,h.gra.kept hb,h.goes.trans (Goes.of_below hb),hr,fun a ha=>⟨Nat.le_trans h.goes.turns.size (hp a ha),by
  cases e:χ1 a.block with
  | zero=>rfl
  | succ n=>exact absurd (h.core.lt a.block (by rw [e]; omega)) (by have:=hp a ha; omega)⟩⟩
theorem gnodes_any {gg:Nat} {ops:List Pm.Wr} {χ:Nat→Nat} (w:World) (h:Gra w gg ops χ):Calls Tryz.prog 25 #[ptV gg] w fun e w'=>∃ p c m T,e=.returned (.slice p m.length c)∧TreeG ops T∧m.Perm (T.map Prod.fst)∧LeftR gg ops χ p (stCells m) w w':=by
 have HC:=Hi h
 obtain ⟨b0,hgb⟩:∃ b,AgAt w gg #[ptV b]:=by
  obtain ⟨⟨X,h1,-⟩,-⟩:=h
  exact ⟨_,h1⟩
 clear h
 go_enter Tryz.func25,Tryz.ntmps25
 go_wp2_with fail
 refine (gours_any _ hgb).mono ?_
 rintro e w1 ⟨rfl,rfl⟩
 clear hgb
 go_wp2_with fail
 refine (gnow_any w HC.out).mono ?_
 rintro e w5 ⟨X,χ1,rfl,hg,hf,hl,ho,ha,hgg,hgo⟩
 have HND:=Hi (nowd_of (Below.refl w.heap.size w) HC.out.gz hg hf hl ho ha hgg hgo)
 clear hg hf hl ho ha hgg hgo HC
 have y5:w5.cell? ⟨X.b,4,none⟩=some (ptV X.P):=HND.out.core.cP
 have HNO:=Hi (nodes_any w5 HND.out.core.tree (Nat.le_trans HND.out.core.small (by decide)))
 go_wp2_with fail
 refine HNO.out.mono ?_
 rintro e w6 ⟨p,c,m,hm,rfl,hr,⟨hp,-⟩,hb⟩
 have HE:=Hi (show ∃ p' c' m' T,Ending.returned (.slice p m.length c)=.returned (.slice p' m'.length c')∧TreeG ops T∧m'.Perm (T.map Prod.fst)∧LeftR gg ops χ p' (stCells m') w w6 from ⟨p,c,m,X.T,rfl,HND.out.core.treeG,hm,leftR_of HND.out hb hr hp⟩)
 clear hm hr hp hb HND HNO y5
 go_wp2
 go_ret
 exact HE.out
theorem gabove_any {gg:Nat} {ops:List Pm.Wr} {χ:Nat→Nat} (s:Qm.St) (w:World) (h:Gra w gg ops χ) (hn:StWf s):Calls Tryz.prog 107 #[ptV gg,snV s] w fun e w'=>∃ p c m T,e=.returned (.slice p (List.length m) c)∧TreeG ops T∧m=Tm.chain T s∧LeftR gg ops χ p (stCells m) w w':=by
 have hb:=(Below.refl w.heap.size w).alloc (Nat.le_refl _) (.cells (stA s) 35)
 have HC:=Hi (h.kept hb)
 have HN:=Hi (AgAt.new w (stA s) 35)
 have HB:=Hi hb
 have HZ:=Hi (show χ w.heap.size=0 from by obtain ⟨⟨X,h1,h2,h3,h4⟩,-⟩:=h; exact h2.toCore.zero (Nat.le_refl _))
 have HGZ:=Hi h.gz
 have HWN:=Hi hn
 have hgb:∃ b,AgAt (w.alloc (.cells (stA s) 35)) gg #[ptV b]:=by
  obtain ⟨⟨X,h1,-⟩,-⟩:=h
  exact ⟨_,h1.kept hb⟩
 obtain ⟨b0,hgb⟩:=hgb
 have HGB:=Hi hgb
 clear h hb hgb hn
 go_enter Tryz.func107,Tryz.ntmps107
 go_upto_region 3 with (go_at_call 77; refine (gours_any _ HGB.out).mono ?_; rintro e w1 ⟨rfl,rfl⟩)
 generalize w.alloc (.cells (stA s) 35)=w1 at *
 have hbd:=Below.drew (Below.refl w1.heap.size w1)
 replace HC:=Hi (HC.out.kept hbd)
 replace HN:=Hi (AgAt.kept HN.out hbd)
 replace HB:=Hi (HB.out.trans (hbd.mono HB.out.size))
 refine wp_region_held_drew (S:=fun W=>AgAt W w.heap.size (stA s)) (by kernel_rfl) HN.out (fun hS=>?_)
 clear hbd HN HGB
 generalize w1.drew=wd at *
 refine tX 0 rfl hS ?_
 go_simp
 refine tK 5 (v:=snV s) rfl (fun W hSW=>exec_load_ag stT rfl rfl rfl hSW) hS ?_
 go_simp
 refine rD 1 rfl (fun K hK=>?_)
 go_simp
 go_wp2_with (go_at_call 78; refine (gnow_any _ HC.out).mono ?_; rintro e w5 ⟨X,χ1,rfl,hg,hf,hl,ho,ha,hgg,hgo⟩)
 have HND:=Hi (nowd_of HB.out HGZ.out hg hf hl ho ha hgg hgo)
 have y5:w5.cell? ⟨X.b,4,none⟩=some (ptV X.P):=HND.out.core.cP
 have hs5:=hS.block (hgo.turns.block _ (AgAt.lt hS) (by rw [HZ.out]; decide))
 refine hK.out _ _ hs5 (fun hS=>?_)
 clear hK K hg hf hl ho ha hgg hgo hs5 HC HB HGZ HZ
 refine tX 2 rfl hS ?_
 refine tX 3 rfl hS ?_
 go_simp
 refine rD 4 rfl (fun K hK=>?_)
 go_simp
 refine hK.out _ _ hS (fun hS=>?_)
 clear hK K
 refine rD 6 rfl (fun K hK=>?_)
 have HLK:=Hi (above_any s w5 HND.out.core.tree HWN.out HND.out.core.tk HND.out.core.par (Nat.le_trans HND.out.core.small (by decide)))
 go_simp
 go_wp2_with (go_at_call 191; refine HLK.out.mono ?_; rintro e w6 ⟨v,m,hm,rfl,ho6,hb6⟩)
 obtain ⟨p,c,hv,hr,-,-,-,hp0⟩:=own_rd ho6
 subst hv
 have hp:∀ a,p=some a→w5.heap.size≤a.block:=fun a ha=>(hp0 a ha).1
 have HM:=Hi hm
 clear ho6 hp0 hm
 have HE:=Hi (show ∃ p' c' m' T,Ending.returned (.slice p (List.length m) c)=.returned (.slice p' (List.length m') c')∧TreeG ops T∧m'=Tm.chain T s∧LeftR gg ops χ p' (stCells m') w w6 from ⟨p,c,m,X.T,rfl,HND.out.core.treeG,HM.out,leftR_of HND.out hb6 hr hp⟩)
 refine hK.out _ _ (AgAt.kept hS hb6) (fun hS=>?_)
 clear hK K hb6 y5 HND HLK hr hp
 refine tX 7 rfl hS ?_
 go_simp
 refine wpAnyH_done (by kernel_rfl) ?_ _
 go_simp
 clear hS
 go_wp2
 go_ret
 exact HE.out
theorem grow_any {gg:Nat} {ops:List Pm.Wr} {χ:Nat→Nat} (s:Qm.St) (w:World) (h:Gra w gg ops χ) (hn:StWf s):Calls Tryz.prog 105 #[ptV gg,snV s] w fun e w'=>∃ p c m T,e=.returned (.slice p (List.length m) c)∧TreeG ops T∧(m.Perm (Rtm.sibs T s)∧Sbm.Srt m)∧LeftR gg ops χ p (sbCells m) w w':=by
 have hb:=(Below.refl w.heap.size w).alloc (Nat.le_refl _) (.cells (stA s) 35)
 have HC:=Hi (h.kept hb)
 have HN:=Hi (AgAt.new w (stA s) 35)
 have HB:=Hi hb
 have HZ:=Hi (show χ w.heap.size=0 from by obtain ⟨⟨X,h1,h2,h3,h4⟩,-⟩:=h; exact h2.toCore.zero (Nat.le_refl _))
 have HGZ:=Hi h.gz
 have HWN:=Hi hn
 have hgb:∃ b,AgAt (w.alloc (.cells (stA s) 35)) gg #[ptV b]:=by
  obtain ⟨⟨X,h1,-⟩,-⟩:=h
  exact ⟨_,h1.kept hb⟩
 obtain ⟨b0,hgb⟩:=hgb
 have HGB:=Hi hgb
 clear h hb hgb hn
 go_enter Tryz.func105,Tryz.ntmps105
 go_upto_region 3 with (go_at_call 77; refine (gours_any _ HGB.out).mono ?_; rintro e w1 ⟨rfl,rfl⟩)
 generalize w.alloc (.cells (stA s) 35)=w1 at *
 have hbd:=Below.drew (Below.refl w1.heap.size w1)
 replace HC:=Hi (HC.out.kept hbd)
 replace HN:=Hi (AgAt.kept HN.out hbd)
 replace HB:=Hi (HB.out.trans (hbd.mono HB.out.size))
 refine wp_region_held_drew (S:=fun W=>AgAt W w.heap.size (stA s)) (by kernel_rfl) HN.out (fun hS=>?_)
 clear hbd HN HGB
 generalize w1.drew=wd at *
 refine tX 0 rfl hS ?_
 go_simp
 refine tK 5 (v:=snV s) rfl (fun W hSW=>exec_load_ag stT rfl rfl rfl hSW) hS ?_
 go_simp
 refine rD 1 rfl (fun K hK=>?_)
 go_simp
 go_wp2_with (go_at_call 78; refine (gnow_any _ HC.out).mono ?_; rintro e w5 ⟨X,χ1,rfl,hg,hf,hl,ho,ha,hgg,hgo⟩)
 have HND:=Hi (nowd_of HB.out HGZ.out hg hf hl ho ha hgg hgo)
 have y5:w5.cell? ⟨X.b,4,none⟩=some (ptV X.P):=HND.out.core.cP
 have hs5:=hS.block (hgo.turns.block _ (AgAt.lt hS) (by rw [HZ.out]; decide))
 refine hK.out _ _ hs5 (fun hS=>?_)
 clear hK K hg hf hl ho ha hgg hgo hs5 HC HB HGZ HZ
 refine tX 2 rfl hS ?_
 refine tX 3 rfl hS ?_
 go_simp
 refine rD 4 rfl (fun K hK=>?_)
 go_simp
 refine hK.out _ _ hS (fun hS=>?_)
 clear hK K
 refine rD 6 rfl (fun K hK=>?_)
 have HLK:=Hi (orowF_any s w5 HND.out.core.tree HWN.out (Nat.le_trans HND.out.core.small (by decide)) HND.out.core.tk.nd)
 go_simp
 go_wp2_with (go_at_call 189; refine HLK.out.mono ?_; rintro e w6 ⟨p,c,m,hm,hs6,rfl,hr,hp,hb6⟩)
 skip
 have HE:=Hi (show ∃ p' c' m' T,Ending.returned (.slice p (List.length m) c)=.returned (.slice p' (List.length m') c')∧TreeG ops T∧(m'.Perm (Rtm.sibs T s)∧Sbm.Srt m')∧LeftR gg ops χ p' (sbCells m') w w6 from ⟨p,c,m,X.T,rfl,HND.out.core.treeG,⟨hm,hs6⟩,leftR_of HND.out hb6 hr hp⟩)
 refine hK.out _ _ (AgAt.kept hS hb6) (fun hS=>?_)
 clear hK K hb6 y5 HND HLK hr hp
 refine tX 7 rfl hS ?_
 go_simp
 refine wpAnyH_done (by kernel_rfl) ?_ _
 go_simp
 clear hS
 go_wp2
 go_ret
 exact HE.out
open Go.RowKit
open Tm (Sp Tr has put cut kids)
def GNewed (w:World) (e:Ending) (w':World):Prop:=∃ gg χ,e=.returned (ptV gg)∧Gra w' gg [] χ∧Below w.heap.size w w'∧(∀ k,χ k≠0→w.heap.size≤k)∧w.heap.size≤gg∧χ gg=0
def newCs (P a b:Nat):Array Value:=#[.int .i32 0,.int .u32 0,.slice none 0 0,.slice none 0 0,ptV P,.map (some a),.map (some b)]
def newX (w1:World) (P M1 M2:Nat):Gx:=⟨0,w1.heap.size+1+1,.slice none 0 0,[],.slice none 0 0,[],P,M1,M2,[],[],w1.heap.size,w1.heap.size+1,[],[]⟩
def newC (w w1:World):Nat→Nat:=fun k=>if k<w.heap.size then 0 else if k<w1.heap.size then 4 else if k<w1.heap.size+1+1 then 5 else if k=w1.heap.size+1+1 then 1 else 0
theorem new_core {w w1:World} {P M1 M2:Nat} (h:Lay w1 P M1 M2 [] [] (fun k=>w.heap.size≤k∧k<w1.heap.size)) (hz:w.heap.size≤w1.heap.size) (w5:World)
  (h5:w5=(((w1.alloc (.map #[] 0)).alloc (.map #[] 0)).alloc (.cells (newCs P w1.heap.size (w1.heap.size+1)) 157)).alloc (.cells #[ptV (w1.heap.size+1+1)] 159)) :
  Gra w5 (w1.heap.size+1+1+1) [] (newC w w1)∧Below w1.heap.size w1 w5:=by
 have h1:∀ (w:World) (o:Obj),(w.alloc o).heap.size=w.heap.size+1:=fun w o=>by simp
 have b1:∀ (w:World) (o:Obj),Below w.heap.size w (w.alloc o):=fun w o=>(Below.refl _ _).alloc (Nat.le_refl _) _
 have k1:=SMap.made w1
 have k2:=SMap.made (w1.alloc (.map #[] 0))
 have k3:=AgAt.new ((w1.alloc (.map #[] 0)).alloc (.map #[] 0)) (newCs P w1.heap.size (w1.heap.size+1)) 157
 have k4:=AgAt.new (((w1.alloc (.map #[] 0)).alloc (.map #[] 0)).alloc (.cells (newCs P w1.heap.size (w1.heap.size+1)) 157)) #[ptV (w1.heap.size+1+1)] 159
 have hsz:w5.heap.size=w1.heap.size+1+1+1+1:=by rw [h5]; simp only [h1]
 have hb:Below w1.heap.size w1 w5:=by
  rw [h5]
  exact (b1 _ _).trans (((b1 _ _).mono (by simp)).trans (((b1 _ _).mono (by simp; omega)).trans ((b1 _ _).mono (by simp; omega))))
 simp only [h1] at k2 k3 k4
 rw [← h5] at k4
 have k3':AgAt w5 (w1.heap.size+1+1) (newCs P w1.heap.size (w1.heap.size+1)):=by rw [h5]; exact k3.kept (b1 _ _)
 have k2':SMap w5 (w1.heap.size+1) []:=by rw [h5]; exact (k2.below (b1 _ _)).below (b1 _ _)
 have k1':SMap w5 w1.heap.size []:=by rw [h5]; exact ((k1.below (b1 _ _)).below (b1 _ _)).below (b1 _ _)
 have hc4:∀ k,newC w w1 k=4↔w.heap.size≤k∧k<w1.heap.size:=fun k=>by
                                           unfold newC; repeat' split
                                           all_goals omega
 have hc5:∀ k,newC w w1 k=5↔w1.heap.size≤k∧k<w1.heap.size+1+1:=fun k=>by
                                                unfold newC; repeat' split
                                                all_goals omega
 have hlt:∀ k,newC w w1 k≠0→k<w5.heap.size:=fun k hk=>by
  rw [hsz]
  unfold newC at hk
  repeat' split at hk
  all_goals omega
 have hl5:Lay w5 P M1 M2 [] [] (fun k=>newC w w1 k=4):=(h.kept hb).more (fun k hk=>(hc4 k).2 hk) fun k hk=>hlt k (by rw [hk]; decide)
 have hms:Ms w5 w1.heap.size (w1.heap.size+1) [] [] (fun k=>newC w w1 k=5) :=
  ⟨⟨k1',k2',fun _ h=>(by cases h),(hc5 _).2 (by omega),(hc5 _).2 (by omega),fun _ h=>(by cases h),by omega,fun _ h=>(by cases h),List.nodup_nil,fun k hk=>hlt k (by rw [hk]; decide)⟩,fun _ h=>(by cases h),fun _ _ h=>(by cases h)⟩
 have hcb:newC w w1 (w1.heap.size+1+1)=1:=by
  unfold newC
  repeat' split
  all_goals omega
 have hcore:Core w5 (newX w1 P M1 M2) (newC w w1) (Gm.run []) :=
  ⟨hlt,k3',hcb,⟨rfl,Or.inl ⟨rfl,rfl⟩⟩,fun _ h=>(by cases h),⟨rfl,Or.inl ⟨rfl,rfl⟩⟩,fun _ h=>(by cases h),hl5,hms,fun _ h=>(by cases h),Tm.Ok.nil,fun _=>rfl,fun _=>rfl,Gm.Good.nil,Gm.Ops.nil,Nat.zero_le _,fun _ h=>(by cases h)⟩
 refine ⟨⟨⟨newX w1 P M1 M2,k4,⟨hcore,Nat.le_refl _,fun i u x hu _=>?_⟩,rfl,rfl⟩,Or.inl ?_⟩,hb⟩
 ·cases hu
 ·unfold newC
  repeat' split
  all_goals omega
theorem gnew_any (w:World):Calls Tryz.prog 15 #[] w (GNewed w):=by
 have HTN:=Hi (new_any w)
 have hmm:=@run_makeMap Tryz.prog
 go_enter Tryz.func15,Tryz.ntmps15
 go_wp2_with fail
 refine HTN.out.mono ?_
 rintro e w1 ⟨P,M1,M2,rfl,hl,hb⟩
 have HC:=Hi (new_core hl hb.size)
 have HB:=Hi hb
 clear hl hb HTN
 go_wp2
 go_ret
 obtain ⟨h1,h2⟩:=HC.out _ rfl
 refine ⟨_,newC w w1,rfl,h1,HB.out.trans (h2.mono HB.out.size),fun k hk=>?_,by have:=HB.out.size; omega,?_⟩
 ·unfold newC at hk
  split at hk
  ·exact absurd rfl hk
  ·omega
 ·have:=HB.out.size
  unfold newC
  repeat' split
  all_goals omega
end Go.Proofs.YthfhefdfehlbkaaGreat
