/-
  A DOCUMENT's LOOKS: its parts; Nodes, Has, Row, Above, Spot, Vector, Time.
  No conditions but sizes.
  A DOCUMENT's take: each op of a batch that came in goes into the graph or into the registers.
  No conditions but sizes.
  A DOCUMENT's Apply, New, Of.
  No conditions but sizes.
  A DOCUMENT's Of: batches applied one behind the other.
  No conditions but sizes.
-/
import Derived.Test.YthfhefdfehlbkaaGreatSh
import Derived.Test.YthfhefdfehlbkaaGreatK27
import Derived.Test.YthfhefdfehlbkaaGreatK29
import Derived.Test.YthfhefdfehlbkaaGreatK09
import Derived.Test.YthfhefdfehlbkaaGreatK06
set_option maxRecDepth 100000
set_option maxHeartbeats 8000000
namespace Go.Proofs.YthfhefdfehlbkaaGreat
open Go.RowKit
open Tm (Sp Tr)
theorem paT:AgT 120 3:=⟨⟨_,Tryz.underlying120⟩,by kernel_rfl⟩
theorem field_pa0 (l gg P:Nat) (W:World):(Instr.field 120 (.agg #[ptV l,ptV gg,ptV P]) 0).run Tryz.prog W=.ok (ptV l) W:=by kernel_rfl
theorem field_pa1 (l gg P:Nat) (W:World):(Instr.field 120 (.agg #[ptV l,ptV gg,ptV P]) 1).run Tryz.prog W=.ok (ptV gg) W:=by kernel_rfl
def DLeft (d l gg P:Nat) (L:Lg) (ws:List Pm.Wr) (c:Nat→Nat) (w w':World):Prop:=∃ c',Dc w' d l gg P L ws c'∧DGo w c w' c'
def DLeftR (d l gg P:Nat) (L:Lg) (ws:List Pm.Wr) (c:Nat→Nat) (p:Option Addr) (cs:List Value) (w w':World):Prop:=∃ c',Dc w' d l gg P L ws c'∧DGo w c w' c'∧Rd w' p cs∧∀ a,p=some a→w.heap.size≤a.block∧c' a.block=0
theorem ptA_one {l gg P:Nat}:(#[ptV l,ptV gg,ptV P]:Array Value).all (·.oneCell')=true:=all_oneCell_toArray (cs:=[ptV l,ptV gg,ptV P]) (by
 intro v hv
 simp only [List.mem_cons,List.not_mem_nil,or_false] at hv
 rcases hv with rfl | rfl | rfl <;> rfl)
section
variable {W W0 W' W'':World} {d l gg P:Nat} {L:Lg} {ws:List Pm.Wr} {c:Nat→Nat} {p:Option Addr} {cs:List Value}
theorem DLeft.after (hb:Below W.heap.size W W0) (h:DLeft d l gg P L ws c W0 W'):DLeft d l gg P L ws c W W':=by
 obtain ⟨c',h1,h2⟩:=h
 exact ⟨c',h1,(DGo.of_below hb).trans h2⟩
theorem DLeft.below (h:DLeft d l gg P L ws c W W') (hb:Below W'.heap.size W' W''):DLeft d l gg P L ws c W W'':=by
 obtain ⟨c',h1,h2⟩:=h
 exact ⟨c',h1.kept hb,h2.trans (DGo.of_below hb)⟩
theorem DLeft.at_ (h:DLeft d l gg P L ws c W W') {b:Nat} {A:Array Value} (ha:AgAt W b A) (hz:c b=0):AgAt W' b A:=by
 obtain ⟨c',h1,h2⟩:=h
 exact ha.turn h2.turns (by rw [hz]; decide)
theorem DLeftR.after (hb:Below W.heap.size W W0) (h:DLeftR d l gg P L ws c p cs W0 W'):DLeftR d l gg P L ws c p cs W W':=by
 obtain ⟨c',h1,h2,h3,h4⟩:=h
 exact ⟨c',h1,(DGo.of_below hb).trans h2,h3,fun a ha=>⟨Nat.le_trans hb.size (h4 a ha).1,(h4 a ha).2⟩⟩
theorem DLeftR.left (h:DLeftR d l gg P L ws c p cs W W'):DLeft d l gg P L ws c W W':=by
 obtain ⟨c',h1,h2,-⟩:=h
 exact ⟨c',h1,h2⟩
theorem Dc.ask {f:Nat} {args:Array Value} {Q:Ending→Prop} (h:Dc W d l gg P L ws c) (hc:∀ χ,Gra W gg (Gm.insAll ws) χ→Calls Tryz.prog f args W fun e w'=>Q e∧Left gg (Gm.insAll ws) χ W w') :
  Calls Tryz.prog f args W fun e w'=>Q e∧DLeft d l gg P L ws c W w':=by
 obtain ⟨S,M,m,F,χ,M1,M2,M3,h,e⟩:=h
 refine (hc χ h.gr).mono ?_
 rintro e' w' ⟨hq,χ',hg,hgo⟩
 obtain ⟨c',h1,h2,-⟩:=h.graph hg hgo rfl
 exact ⟨hq,c',⟨S,M,m,F,χ',M1,M2,M3,h1,e⟩,h2⟩
theorem Dcx.leftR {S M:Nat} {m:Sm} {F:Nat→Prop} {χ:Nat→Nat} {M1 M2 M3:Nat} (h:Dcx W d l S M m F gg ws χ P M1 M2 M3 c) (he:m.lg=L) (hl:LeftR gg (Gm.insAll ws) χ p cs W W'):DLeftR d l gg P L ws c p cs W W':=by
 obtain ⟨χ',hg,hgo,hr,hp⟩:=hl
 obtain ⟨c',h1,h2,h3⟩:=h.graph hg hgo rfl
 exact ⟨c',⟨S,M,m,F,χ',M1,M2,M3,h1,he⟩,h2,hr,fun a ha=>⟨(hp a ha).1,h3 _ (hp a ha).1 (hp a ha).2⟩⟩
theorem Dc.nodes (h:Dc W d l gg P L ws c):Calls Tryz.prog 25 #[ptV gg] W fun e w'=>∃ p c' m T,e=.returned (.slice p m.length c')∧TreeG (Gm.insAll ws) T∧m.Perm (T.map Prod.fst)∧DLeftR d l gg P L ws c p (stCells m) W w':=by
 obtain ⟨S,M,m,F,χ,M1,M2,M3,h,e⟩:=h
 exact (gnodes_any W h.gr).mono fun _ _ ⟨p,c,m,T,h1,h2,h3,h4⟩=>⟨p,c,m,T,h1,h2,h3,h.leftR e h4⟩
theorem Dc.above (s:Qm.St) (h:Dc W d l gg P L ws c) (hn:StWf s):Calls Tryz.prog 107 #[ptV gg,snV s] W fun e w'=>∃ p c' m T,e=.returned (.slice p (List.length m) c')∧TreeG (Gm.insAll ws) T∧m=Tm.chain T s∧DLeftR d l gg P L ws c p (stCells m) W w':=by
 obtain ⟨S,M,m,F,χ,M1,M2,M3,h,e⟩:=h
 exact (gabove_any s W h.gr hn).mono fun _ _ ⟨p,c,m,T,h1,h2,h3,h4⟩=>⟨p,c,m,T,h1,h2,h3,h.leftR e h4⟩
theorem Dc.row (s:Qm.St) (h:Dc W d l gg P L ws c) (hn:StWf s):Calls Tryz.prog 105 #[ptV gg,snV s] W fun e w'=>∃ p c' m T,e=.returned (.slice p (List.length m) c')∧TreeG (Gm.insAll ws) T∧(m.Perm (Rtm.sibs T s)∧Sbm.Srt m)∧DLeftR d l gg P L ws c p (sbCells m) W w':=by
 obtain ⟨S,M,m,F,χ,M1,M2,M3,h,e⟩:=h
 exact (grow_any s W h.gr hn).mono fun _ _ ⟨p,c,m,T,h1,h2,h3,h4⟩=>⟨p,c,m,T,h1,h2,h3,h.leftR e h4⟩
theorem Dc.has (s:Qm.St) (h:Dc W d l gg P L ws c) (hn:StWf s):Calls Tryz.prog 103 #[ptV gg,snV s] W fun e w'=>e=.returned (.bool (Gm.has (Gm.run (Gm.insAll ws)) s))∧DLeft d l gg P L ws c W w' :=
 h.ask fun _ hg=>ghas_any s W hg hn
theorem Dc.spot (s:Qm.St) (h:Dc W d l gg P L ws c) (hn:StWf s):Calls Tryz.prog 74 #[ptV gg,snV s] W fun e w'=>e=.returned (.tuple #[.agg (spA (((Gm.run (Gm.insAll ws)).s s).getD zS)),.bool ((Gm.run (Gm.insAll ws)).s s).isSome])∧DLeft d l gg P L ws c W w' :=
 h.ask fun _ hg=>gspot_any s W hg hn
theorem Dc.vector (h:Dc W d l gg P L ws c):Calls Tryz.prog 127 #[ptV l] W fun e w'=>e=.returned (.agg (vecA (vecL9 L)))∧Below W.heap.size W w':=by
 obtain ⟨S,M,m,F,χ,M1,M2,M3,h,e⟩:=h
 rw [← e]
 exact lvector_any W h.lo
theorem Dc.time (h:Dc W d l gg P L ws c):Calls Tryz.prog 128 #[ptV l] W fun e w'=>e=.returned (.int .i64 (tmS L 16).1)∧Below W.heap.size W w':=by
 obtain ⟨S,M,m,F,χ,M1,M2,M3,h,e⟩:=h
 rw [← e]
 exact ltime_any W h.lo
end
theorem down_any {d l gg P:Nat} (w:World) (h:AgAt w d #[ptV l,ptV gg,ptV P]):Calls Tryz.prog 115 #[ptV d] w fun e w'=>e=.returned (.agg #[ptV l,ptV gg,ptV P])∧Below w.heap.size w w':=by
 have HA:=Hi (h.kept ((Below.refl _ _).alloc (Nat.le_refl _) (.cells #[.pointer none,.pointer none,.pointer none] 120)))
 have HB:=Hi ((Below.refl w.heap.size w).alloc (Nat.le_refl _) (.cells #[.pointer none,.pointer none,.pointer none] 120))
 clear h
 go_enter Tryz.func115,Tryz.ntmps115
 go_wp2_with (first | (refine wpList_load_ag paT (by kernel_rfl) _ rfl _ rfl (A:=#[ptV l,ptV gg,ptV P]) rfl HA.out ?_) | (refine wpList_store_newag paT rfl _ _ rfl rfl _ (A:=#[ptV l,ptV gg,ptV P]) rfl rfl rfl ptA_one ?_; intro w2 hv2 hb2))
 exact bodyPost_ret (results_ag paT _ rfl rfl hv2 rfl) rfl ⟨rfl,hb2⟩
theorem dnodes_any {d l gg P:Nat} {L:Lg} {ws:List Pm.Wr} {c:Nat→Nat} (w:World) (h:Dc w d l gg P L ws c):Calls Tryz.prog 55 #[ptV d] w fun e w'=>∃ p c' m T,e=.returned (.slice p (List.length m) c')∧TreeG (Gm.insAll ws) T∧m.Perm (T.map Prod.fst)∧DLeftR d l gg P L ws c p (stCells m) w w':=by
 have HD:=Hi h
 have HO:=Hi (down_any w h.box)
 have hfd:=field_pa1 l gg P
 clear h
 go_enter Tryz.func55,Tryz.ntmps55
 go_wp2_with fail
 refine HO.out.mono ?_
 rintro e w1 ⟨rfl,hb1⟩
 have HC:=Hi (HD.out.kept hb1).nodes
 have HB1:=Hi hb1
 clear hb1 HO
 go_wp2_with fail
 refine HC.out.mono ?_
 rintro e w2 ⟨p,c',m,T,rfl,ht,hm,hl⟩
 have HE:=Hi (show ∃ p' c'' m' T,Ending.returned (.slice p (List.length m) c')=.returned (.slice p' (List.length m') c'')∧TreeG (Gm.insAll ws) T∧m'.Perm (T.map Prod.fst)∧DLeftR d l gg P L ws c p' (stCells m') w w2 from ⟨p,c',m,T,rfl,ht,hm,hl.after HB1.out⟩)
 clear HC HD HB1 ht hm hl
 go_wp2
 go_ret
 exact HE.out
theorem dtime_any {d l gg P:Nat} {L:Lg} {ws:List Pm.Wr} {c:Nat→Nat} (w:World) (h:Dc w d l gg P L ws c):Calls Tryz.prog 44 #[ptV d] w fun e w'=>e=.returned (.int .i64 (tmS L 16).1)∧Below w.heap.size w w':=by
 have HD:=Hi h
 have HO:=Hi (down_any w h.box)
 have hfd:=field_pa0 l gg P
 clear h
 go_enter Tryz.func44,Tryz.ntmps44
 go_wp2_with fail
 refine HO.out.mono ?_
 rintro e w1 ⟨rfl,hb1⟩
 have HC:=Hi (HD.out.kept hb1).time
 have HB1:=Hi hb1
 clear hb1 HO
 go_wp2_with fail
 refine HC.out.mono ?_
 rintro e w2 ⟨rfl,hb2⟩
 have HE:=Hi (show Below w.heap.size w w2 from HB1.out.trans (hb2.mono HB1.out.size))
 clear HC HD HB1 hb2
 go_wp2
 go_ret
 exact ⟨rfl,HE.out⟩
theorem dhas_any {d l gg P:Nat} {L:Lg} {ws:List Pm.Wr} {c:Nat→Nat} (s:Qm.St) (w:World) (h:Dc w d l gg P L ws c) (hn:StWf s):Calls Tryz.prog 58 #[ptV d,snV s] w fun e w'=>e=.returned (.bool (Gm.has (Gm.run (Gm.insAll ws)) s))∧DLeft d l gg P L ws c w w':=by
 have hb:=(Below.refl w.heap.size w).alloc (Nat.le_refl _) (.cells (stA s) 35)
 have HD:=Hi (h.kept hb)
 have HN:=Hi (AgAt.new w (stA s) 35)
 have HB:=Hi hb
 have HZ:=Hi (show c w.heap.size=0 from h.zero (Nat.le_refl _))
 have HWN:=Hi hn
 clear h hb hn
 go_enter Tryz.func58,Tryz.ntmps58
 go_upto_region 1 with fail
 generalize w.alloc (.cells (stA s) 35)=w0 at *
 have hbd:=Below.drew (Below.refl w0.heap.size w0)
 replace HD:=Hi (HD.out.kept hbd)
 replace HN:=Hi (AgAt.kept HN.out hbd)
 replace HB:=Hi (HB.out.trans (hbd.mono HB.out.size))
 refine wp_region_held_drew (S:=fun W=>AgAt W w.heap.size (stA s)) (by kernel_rfl) HN.out (fun hS=>?_)
 clear hbd HN
 generalize w0.drew=wd at *
 refine tX 0 rfl hS ?_
 go_simp
 refine tK 3 (v:=snV s) rfl (fun W hSW=>exec_load_ag stT rfl rfl rfl hSW) hS ?_
 go_simp
 refine rD 1 rfl (fun K hK=>?_)
 go_simp
 go_wp2_with (go_at_call 115; refine (down_any _ HD.out.box).mono ?_; rintro e w1 ⟨rfl,hb1⟩)
 replace HD:=Hi (HD.out.kept hb1)
 replace HB:=Hi (HB.out.trans (hb1.mono HB.out.size))
 replace HZ:=Hi (show c w.heap.size=0 from HZ.out)
 refine hK.out _ _ (hS.kept hb1) (fun hS=>?_)
 clear hK K hb1
 refine tK 2 (v:=?_) rfl ?_ hS ?_
 rotate_left
 ·intro W hSW
  have c:=field_pa1 l gg P W
  go_simp
  all_goals with_reducible rfl
 go_simp
 refine rD 4 rfl (fun K hK=>?_)
 have HC:=Hi (HD.out.has s HWN.out)
 go_simp
 go_wp2_with (go_at_call 103; refine HC.out.mono ?_; rintro e w2 ⟨rfl,hl2⟩)
 have HL2:=Hi hl2
 have HE:=Hi (show DLeft d l gg P L ws c w w2 from hl2.after HB.out)
 refine hK.out _ _ (HL2.out.at_ hS HZ.out) (fun hS=>?_)
 clear hK K HC HL2 hl2
 refine tX 5 rfl hS ?_
 go_simp
 refine wpAnyH_done (by kernel_rfl) ?_ _
 go_simp
 clear hS
 go_wp2
 go_ret
 exact ⟨rfl,HE.out⟩
theorem drow_any {d l gg P:Nat} {L:Lg} {ws:List Pm.Wr} {c:Nat→Nat} (s:Qm.St) (w:World) (h:Dc w d l gg P L ws c) (hn:StWf s):Calls Tryz.prog 56 #[ptV d,snV s] w fun e w'=>∃ p c' m T,e=.returned (.slice p (List.length m) c')∧TreeG (Gm.insAll ws) T∧(m.Perm (Rtm.sibs T s)∧Sbm.Srt m)∧DLeftR d l gg P L ws c p (sbCells m) w w':=by
 have hb:=(Below.refl w.heap.size w).alloc (Nat.le_refl _) (.cells (stA s) 35)
 have HD:=Hi (h.kept hb)
 have HN:=Hi (AgAt.new w (stA s) 35)
 have HB:=Hi hb
 have HZ:=Hi (show c w.heap.size=0 from h.zero (Nat.le_refl _))
 have HWN:=Hi hn
 clear h hb hn
 go_enter Tryz.func56,Tryz.ntmps56
 go_upto_region 1 with fail
 generalize w.alloc (.cells (stA s) 35)=w0 at *
 have hbd:=Below.drew (Below.refl w0.heap.size w0)
 replace HD:=Hi (HD.out.kept hbd)
 replace HN:=Hi (AgAt.kept HN.out hbd)
 replace HB:=Hi (HB.out.trans (hbd.mono HB.out.size))
 refine wp_region_held_drew (S:=fun W=>AgAt W w.heap.size (stA s)) (by kernel_rfl) HN.out (fun hS=>?_)
 clear hbd HN
 generalize w0.drew=wd at *
 refine tX 0 rfl hS ?_
 go_simp
 refine tK 3 (v:=snV s) rfl (fun W hSW=>exec_load_ag stT rfl rfl rfl hSW) hS ?_
 go_simp
 refine rD 1 rfl (fun K hK=>?_)
 go_simp
 go_wp2_with (go_at_call 115; refine (down_any _ HD.out.box).mono ?_; rintro e w1 ⟨rfl,hb1⟩)
 replace HD:=Hi (HD.out.kept hb1)
 replace HB:=Hi (HB.out.trans (hb1.mono HB.out.size))
 replace HZ:=Hi (show c w.heap.size=0 from HZ.out)
 refine hK.out _ _ (hS.kept hb1) (fun hS=>?_)
 clear hK K hb1
 refine tK 2 (v:=?_) rfl ?_ hS ?_
 rotate_left
 ·intro W hSW
  have c:=field_pa1 l gg P W
  go_simp
  all_goals with_reducible rfl
 go_simp
 refine rD 4 rfl (fun K hK=>?_)
 have HC:=Hi (HD.out.row s HWN.out)
 go_simp
 go_wp2_with (go_at_call 105; refine HC.out.mono ?_; rintro e w2 ⟨p,c',m,T,rfl,ht,hm0,hl⟩; have hm:=Hi hm0; clear hm0)
 have HL2:=Hi hl.left
 have HE:=Hi (show ∃ p' c'' m' T,Ending.returned (.slice p (List.length m) c')=.returned (.slice p' (List.length m') c'')∧TreeG (Gm.insAll ws) T∧(m'.Perm (Rtm.sibs T s)∧Sbm.Srt m')∧DLeftR d l gg P L ws c p' (sbCells m') w w2 from ⟨p,c',m,T,rfl,ht,hm.out,hl.after HB.out⟩)
 refine hK.out _ _ (HL2.out.at_ hS HZ.out) (fun hS=>?_)
 clear hK K HC HL2 ht hm hl
 refine tX 5 rfl hS ?_
 go_simp
 refine wpAnyH_done (by kernel_rfl) ?_ _
 go_simp
 clear hS
 go_wp2
 go_ret
 exact HE.out
theorem dabove_any {d l gg P:Nat} {L:Lg} {ws:List Pm.Wr} {c:Nat→Nat} (s:Qm.St) (w:World) (h:Dc w d l gg P L ws c) (hn:StWf s):Calls Tryz.prog 57 #[ptV d,snV s] w fun e w'=>∃ p c' m T,e=.returned (.slice p (List.length m) c')∧TreeG (Gm.insAll ws) T∧m=Tm.chain T s∧DLeftR d l gg P L ws c p (stCells m) w w':=by
 have hb:=(Below.refl w.heap.size w).alloc (Nat.le_refl _) (.cells (stA s) 35)
 have HD:=Hi (h.kept hb)
 have HN:=Hi (AgAt.new w (stA s) 35)
 have HB:=Hi hb
 have HZ:=Hi (show c w.heap.size=0 from h.zero (Nat.le_refl _))
 have HWN:=Hi hn
 clear h hb hn
 go_enter Tryz.func57,Tryz.ntmps57
 go_upto_region 1 with fail
 generalize w.alloc (.cells (stA s) 35)=w0 at *
 have hbd:=Below.drew (Below.refl w0.heap.size w0)
 replace HD:=Hi (HD.out.kept hbd)
 replace HN:=Hi (AgAt.kept HN.out hbd)
 replace HB:=Hi (HB.out.trans (hbd.mono HB.out.size))
 refine wp_region_held_drew (S:=fun W=>AgAt W w.heap.size (stA s)) (by kernel_rfl) HN.out (fun hS=>?_)
 clear hbd HN
 generalize w0.drew=wd at *
 refine tX 0 rfl hS ?_
 go_simp
 refine tK 3 (v:=snV s) rfl (fun W hSW=>exec_load_ag stT rfl rfl rfl hSW) hS ?_
 go_simp
 refine rD 1 rfl (fun K hK=>?_)
 go_simp
 go_wp2_with (go_at_call 115; refine (down_any _ HD.out.box).mono ?_; rintro e w1 ⟨rfl,hb1⟩)
 replace HD:=Hi (HD.out.kept hb1)
 replace HB:=Hi (HB.out.trans (hb1.mono HB.out.size))
 replace HZ:=Hi (show c w.heap.size=0 from HZ.out)
 refine hK.out _ _ (hS.kept hb1) (fun hS=>?_)
 clear hK K hb1
 refine tK 2 (v:=?_) rfl ?_ hS ?_
 rotate_left
 ·intro W hSW
  have c:=field_pa1 l gg P W
  go_simp
  all_goals with_reducible rfl
 go_simp
 refine rD 4 rfl (fun K hK=>?_)
 have HC:=Hi (HD.out.above s HWN.out)
 go_simp
 go_wp2_with (go_at_call 107; refine HC.out.mono ?_; rintro e w2 ⟨p,c',m,T,rfl,ht,hm0,hl⟩; have hm:=Hi hm0; clear hm0)
 have HL2:=Hi hl.left
 have HE:=Hi (show ∃ p' c'' m' T,Ending.returned (.slice p (List.length m) c')=.returned (.slice p' (List.length m') c'')∧TreeG (Gm.insAll ws) T∧m'=Tm.chain T s∧DLeftR d l gg P L ws c p' (stCells m') w w2 from ⟨p,c',m,T,rfl,ht,hm.out,hl.after HB.out⟩)
 refine hK.out _ _ (HL2.out.at_ hS HZ.out) (fun hS=>?_)
 clear hK K HC HL2 ht hm hl
 refine tX 5 rfl hS ?_
 go_simp
 refine wpAnyH_done (by kernel_rfl) ?_ _
 go_simp
 clear hS
 go_wp2
 go_ret
 exact HE.out
open Go.RowKit
theorem allR_snoc (ws:List Pm.Wr) (y:Pm.Wr):Pm.allR (ws ++ [y])=Pm.doR (Pm.allR ws) y:=by simp [Pm.allR,List.foldl_append]
theorem doR_graph {r:Pm.Rs} {y:Pm.Wr} (h:y.x.k=1∨y.x.k=2∨y.x.k=5):Pm.doR r y=r:=by
 have e1:Pm.hV y=none:=by unfold Pm.hV; rw [if_neg (by omega)]
 have e2:Pm.hM y=none:=by unfold Pm.hM; rw [if_neg (by omega)]
 have e3:Pm.hO y=none:=by unfold Pm.hO; rw [if_neg (by omega)]
 unfold Pm.doR
 rw [Pm.step_none e1,Pm.step_none e2,Pm.step_none e3]
theorem insO_regs {ops:List Pm.Wr} {y:Pm.Wr} (h:¬ (y.x.k=1∨y.x.k=2∨y.x.k=5)):Gm.insO ops y=ops:=Gm.insO_bad fun e=>h (Gm.okX_iff.1 (Gm.insE_ok.1 e).1).2.2
section
variable {W W' w:World} {d l gg P:Nat} {L:Lg} {ws:List Pm.Wr} {c:Nat→Nat}
def DWrote (d l gg P:Nat) (L:Lg) (ws:List Pm.Wr) (c:Nat→Nat) (w w':World):Prop:=∃ c',Dc w' d l gg P L ws c'∧DGo w c w' c'
theorem Dc.insert (s:Qm.St) (x:Opp) (q:Option Addr) (cq:Nat) (h:Dc W d l gg P L ws c) (hs:Sz x) (ha:Pa W x q cq) (hl:ws.length<80) (hk:x.k=1∨x.k=2∨x.k=5) :
  Calls Tryz.prog 17 #[ptV gg,.agg #[.int .i64 s.1,.int .i64 s.2],.agg (opA x q cq)] W fun e w'=>(∃ v,e=.returned (.tuple #[.int .i64 v,.int .i64 (Gm.insE (Gm.insAll ws) ⟨s,x⟩)]))∧DWrote d l gg P L (ws ++ [⟨s,x⟩]) c W w':=by
 obtain ⟨S,M,m,F,χ,M1,M2,M3,h,e⟩:=h
 refine (ginsert_any s x q cq W h.gr hs ha (Nat.lt_of_le_of_lt (Gm.len_all ws) hl)).mono ?_
 rintro e' w' ⟨χ',rfl,hg,hgo⟩
 rw [← Gm.insAll_snoc] at hg
 obtain ⟨c',h1,h2,-⟩:=h.graph hg hgo (by rw [allR_snoc,doR_graph hk])
 exact ⟨⟨_,rfl⟩,c',⟨S,M,m,F,χ',M1,M2,M3,h1,e⟩,h2⟩
theorem Dc.do_ (s:Qm.St) (x:Opp) (q:Option Addr) (cq:Nat) (h:Dc W d l gg P L ws c) (hs:Sz x) (ha:Pa W x q cq) (hk:¬ (x.k=1∨x.k=2∨x.k=5)) :
  Calls Tryz.prog 205 #[ptV P,.agg #[.int .i64 s.1,.int .i64 s.2],.agg (opA x q cq)] W fun e w'=>e=.returned (.int .i64 (Pm.doE ⟨s,x⟩))∧DWrote d l gg P L (ws ++ [⟨s,x⟩]) c W w':=by
 obtain ⟨S,M,m,F,χ,M1,M2,M3,h,e⟩:=h
 refine (do_any s x q cq W h.re hs ha).mono ?_
 rintro e' w' ⟨rfl,hr,ht⟩
 rw [← allR_snoc] at hr
 obtain ⟨h1,h2⟩:=h.regs hr ht (by rw [Gm.insAll_snoc,insO_regs hk])
 exact ⟨rfl,c,⟨S,M,m,F,χ,M1,M2,M3,h1,e⟩,h2⟩
structure TkI (w:World) (d l gg P:Nat) (L:Lg) (ws:List Pm.Wr) (c:Nat→Nat) (x:Bat) (p:Option Addr) (cc:Nat) (k b4:Nat) (t:Int) (W:World):Prop where
 dc:∃ c',Dc W d l gg P L (ws ++ (wrB x).take k) c'∧DGo w c W c'∧∀ j,w.heap.size≤j→j≤b4→c' j=0
 a2:AgAt W w.heap.size #[ptV l,ptV gg,ptV P]
 a3:BtAt W (w.heap.size+1) x p cc
 a4:AgAt W b4 #[.int .i64 t,.int .i64 x.r]
 h4:w.heap.size+1<b4
 bo:BopsF (fun j=>j<w.heap.size∧c j=0) W x p cc
theorem TkI.kept {x:Bat} {p:Option Addr} {cc k b4:Nat} {t:Int} (h:TkI w d l gg P L ws c x p cc k b4 t W) (hb:Below W.heap.size W W'):TkI w d l gg P L ws c x p cc k b4 t W':=by
 obtain ⟨⟨c',h1,h2,h3⟩,a2,a3,a4,h4,bo⟩:=h
 exact ⟨⟨c',h1.kept hb,h2.trans (DGo.of_below hb),h3⟩,a2.kept hb,AgAt.kept a3 hb,a4.kept hb,h4,bo.below hb⟩
theorem TkI.went {x:Bat} {p:Option Addr} {cc k b4:Nat} {t:Int} (h:TkI w d l gg P L ws c x p cc k b4 t W) {c':Nat→Nat} (h2:DGo w c W c') (h3:∀ j,w.heap.size≤j→j≤b4→c' j=0) (hw:DWrote d l gg P L (ws ++ (wrB x).take (k+1)) c' W W'):TkI w d l gg P L ws c x p cc (k+1) b4 t W':=by
 obtain ⟨-,a2,a3,a4,h4,bo⟩:=h
 obtain ⟨c'',k1,k2⟩:=hw
 have hz:∀ j,c' j=0→¬ (1≤c' j∧c' j≤3):=fun j e=>by omega
 refine ⟨⟨c'',k1,h2.trans k2,fun j k3 k4=>?_⟩,a2.turn k2.turns (hz _ (h3 _ (Nat.le_refl _) (by omega))),AgAt.turn a3 k2.turns (hz _ (h3 _ (by omega) (by omega))),a4.turn k2.turns (hz _ (h3 _ (by omega) (Nat.le_refl _))),h4,bo.turns k2.turns fun j hj=>hz j ?_⟩
 ·rw [k2.keep j (Nat.lt_of_le_of_lt k4 (AgAt.lt a4)),h3 j k3 k4]
 ·rw [h2.keep j hj.1,hj.2]
theorem TkI.dc1 {x:Bat} {p:Option Addr} {cc k b4:Nat} {t:Int} (h:TkI w d l gg P L ws c x p cc k b4 t W):∃ c',(Dc W d l gg P L (ws ++ (wrB x).take k) c'∧DGo w c W c')∧∀ j,w.heap.size≤j→j≤b4→c' j=0:=by
 obtain ⟨⟨c',h1,h2,h3⟩,-⟩:=h
 exact ⟨c',⟨h1,h2⟩,h3⟩
theorem TkI.insert {x:Bat} {p:Option Addr} {cc k b4:Nat} (q:Option Addr) (cq:Nat) (h:TkI w d l gg P L ws c x p cc k b4 (x.t+(k:Int)) W) (hk:k<x.ops.length) (hs:Sz (opOf x.ops k)) (ha:Pa W (opOf x.ops k) q cq) (hl:ws.length+x.ops.length<80) {kd:Int} (hkd:(opOf x.ops k).k=kd) (hg:kd=1∨kd=2∨kd=5) :
  Calls Tryz.prog 17 #[ptV gg,.agg #[.int .i64 (x.t+(k:Int)),.int .i64 x.r],.agg (opA (opOf x.ops k) q cq)] W fun e w'=>(∃ v u,e=.returned (.tuple #[.int .i64 v,.int .i64 u]))∧TkI w d l gg P L ws c x p cc (k+1) b4 (x.t+(k:Int)) w':=by
 obtain ⟨c',⟨h1,h2⟩,h3⟩:=h.dc1
 refine (h1.insert (x.t+(k:Int),x.r) (opOf x.ops k) q cq hs ha (by simp only [List.length_append,List.length_take,wrB_length]; omega) (by rw [hkd]; exact hg)).mono ?_
 rintro e w' ⟨⟨v,rfl⟩,hw⟩
 rw [List.append_assoc,← wrB_take x k hk] at hw
 exact ⟨⟨_,_,rfl⟩,h.went h2 h3 hw⟩
theorem TkI.do_ {x:Bat} {p:Option Addr} {cc k b4:Nat} (q:Option Addr) (cq:Nat) (h:TkI w d l gg P L ws c x p cc k b4 (x.t+(k:Int)) W) (hk:k<x.ops.length) (hs:Sz (opOf x.ops k)) (ha:Pa W (opOf x.ops k) q cq) {kd:Int} (hkd:(opOf x.ops k).k=kd) (hg:¬ (kd=1∨kd=2∨kd=5)) :
  Calls Tryz.prog 205 #[ptV P,.agg #[.int .i64 (x.t+(k:Int)),.int .i64 x.r],.agg (opA (opOf x.ops k) q cq)] W fun e w'=>(∃ v,e=.returned (.int .i64 v))∧TkI w d l gg P L ws c x p cc (k+1) b4 (x.t+(k:Int)) w':=by
 obtain ⟨c',⟨h1,h2⟩,h3⟩:=h.dc1
 refine (h1.do_ (x.t+(k:Int),x.r) (opOf x.ops k) q cq hs ha (by rw [hkd]; exact hg)).mono ?_
 rintro e w' ⟨rfl,hw⟩
 rw [List.append_assoc,← wrB_take x k hk] at hw
 exact ⟨⟨_,rfl⟩,h.went h2 h3 hw⟩
theorem TkI.tick {x:Bat} {p:Option Addr} {cc k b4:Nat} {t u:Int} (h:TkI w d l gg P L ws c x p cc k b4 t W):TkI w d l gg P L ws c x p cc k b4 u (W.setCell ⟨b4,0,none⟩ (.int .i64 u)):=by
 obtain ⟨⟨c',h1,h2,h3⟩,a2,a3,a4,h4,bo⟩:=h
 have ht:=set_turns b4 W 0 (.int .i64 u)
 have hz:=h3 b4 (by omega) (Nat.le_refl _)
 have hws:=h2.turns.size
 have ht2:Turns (fun j=>1≤c' j∧c' j≤3∨j=b4) W (W.setCell ⟨b4,0,none⟩ (.int .i64 u)):=ht.mono fun j _ e=>Or.inr e
 refine ⟨⟨c',h1.turns ht fun j hj e=>hj (by rw [e]; exact hz),⟨h2.turns.trans (ht.mono fun j _ e=>Or.inr (by omega)),h2.keep⟩,h3⟩,a2.turn ht (by omega),AgAt.turn a3 ht (by omega),?_,h4,bo.turns ht fun j hj e=>by have:=hj.1; omega⟩
 have:=AgAt.put a4 0 (.int .i64 u)
 exact this
end
theorem dtake_any {d l gg P:Nat} {L:Lg} {ws:List Pm.Wr} {c:Nat→Nat} (x:Bat) (p:Option Addr) (cc:Nat) (w:World) (h:Dc w d l gg P L ws c) (hx:OkB x) (ho:BopsF (fun j=>c j=0) w x p cc) (hl:ws.length+x.ops.length<80) :
  Calls Tryz.prog 119 #[.agg #[ptV l,ptV gg,ptV P],.agg (btA x p cc)] w fun e w'=>e=.returned (.tuple #[])∧DWrote d l gg P L (ws ++ wrB x) c w w':=by
 have b1:∀ (w:World) (o:Obj),Below w.heap.size w (w.alloc o):=fun w o=>(Below.refl _ _).alloc (Nat.le_refl _) _
 have HB:=Hi (show Below w.heap.size w ((w.alloc (.cells #[ptV l,ptV gg,ptV P] 120)).alloc (.cells (btA x p cc) 81)) from (b1 _ _).trans ((b1 _ _).mono (by simp)))
 have HA2:=Hi (show AgAt ((w.alloc (.cells #[ptV l,ptV gg,ptV P] 120)).alloc (.cells (btA x p cc) 81)) w.heap.size #[ptV l,ptV gg,ptV P] from (AgAt.new w _ _).kept (b1 _ _))
 have HA3:=Hi (show BtAt ((w.alloc (.cells #[ptV l,ptV gg,ptV P] 120)).alloc (.cells (btA x p cc) 81)) (w.heap.size+1) x p cc from by
  have:=AgAt.new (w.alloc (.cells #[ptV l,ptV gg,ptV P] 120)) (btA x p cc) 81
  rwa [World.size_alloc] at this)
 have HZ:=Hi (show ((w.alloc (.cells #[ptV l,ptV gg,ptV P] 120)).alloc (.cells (btA x p cc) 81)).heap.size=w.heap.size+2 from by simp)
 have HST:=Hi (bstamp_any x p cc 0 ((w.alloc (.cells #[ptV l,ptV gg,ptV P] 120)).alloc (.cells (btA x p cc) 81)) hx.szs (ho.bops.kept HB.out) (by omega))
 have hlen:=(rightT_iff.1 hx.right).2.2.1
 have htm:=(rightT_iff.1 hx.right).2.2.2.1
 rw [stampT_yes ⟨by omega,by omega,hx.right⟩,show x.t+0=x.t from Int.add_zero _] at HST
 have HBO:=Hi (ho.mono (G:=fun j=>j<w.heap.size∧c j=0) fun j h1 h2=>⟨h1,h2⟩)
 have HD:=Hi h
 have HSZ:=Hi hx.szs
 clear h ho b1 hx
 go_enter Tryz.func119,Tryz.ntmps119
 go_upto_region 1 with fail
 generalize (w.alloc (.cells #[ptV l,ptV gg,ptV P] 120)).alloc (.cells (btA x p cc) 81)=w0 at *
 go_wp2_with (refine wpList_load_ag btP (by kernel_rfl) _ rfl _ rfl (A:=btA x p cc) rfl HA3.out ?_)
 refine HST.out.mono ?_
 rintro e w1 ⟨rfl,hb1⟩
 replace HA2:=Hi (HA2.out.kept hb1)
 replace HA3:=Hi (AgAt.kept HA3.out hb1)
 replace HZ:=Hi (show w.heap.size+2≤w1.heap.size from by have:=hb1.size; have:=HZ.out; omega)
 replace HB:=Hi (HB.out.trans (hb1.mono HB.out.size))
 clear hb1 HST
 go_upto_region 2 with (refine wpList_store_newag stT rfl _ _ rfl rfl _ (A:=#[.int .i64 x.t,.int .i64 x.r]) rfl rfl rfl (stA_one _ _) ?_; intro w2 hv2 hb2)
 have T:=Hi (show TkI w d l gg P L ws c x p cc 0 w1.heap.size (x.t+((0:Nat):Int)) w2 from by
  have hbw:=HB.out.trans (hb2.mono HB.out.size)
  refine ⟨⟨c,?_,DGo.of_below hbw,fun j h1 _=>HD.out.zero h1⟩,HA2.out.kept hb2,AgAt.kept HA3.out hb2,?_,by have:=HZ.out; omega,HBO.out.below hbw⟩
  ·rw [List.take_zero,List.append_nil]
   exact HD.out.kept hbw
  ·rw [show x.t+((0:Nat):Int)=x.t from Int.add_zero _]
   exact hv2)
 clear hv2 hb2 HA2 HA3 HZ HB HBO HD
 obtain ⟨b4,hb4⟩:∃ b,b=w1.heap.size:=⟨_,rfl⟩
 rw [← hb4] at T ⊢
 clear hb4
 have y3:=(BtAt.cells T.out.a3).2.2.2
 go_wp2
 clear y3
 go_loopw [12] (fun i wr=>∃ k:Nat,k≤x.ops.length∧i=.int .i64 (k:Int)∧TkI w d l gg P L ws c x p cc k b4 (x.t+(k:Int)) wr) (fun i _=>x.ops.length - (intOf i).toNat)
 case atStart=>exact ⟨0,Nat.zero_le _,rfl,T.out⟩
 case round =>
  clear T
  obtain ⟨k,hk,rfl,ht⟩:=hrel
  have T:=Hi ht
  clear ht
  by_cases hlt:k<x.ops.length
  ·have hd0:decide ((k:Int)<(x.ops.length:Int))=true:=decide_eq_true (by omega)
   obtain ⟨es,hos,-,-⟩:=T.out.bo
   obtain ⟨g,o,rfl,hgl⟩:=hos.rd.addr (by rw [enCells_length,hos.len]; omega)
   have HRD:=Hi hos.rd
   have HKL:=Hi (show k<es.length by rw [hos.len]; exact hlt)
   have HXK:=Hi (enOf_x hos.map k)
   have HPK:=Hi (hos.paOf hlt)
   have HSK:=Hi (HSZ.out.of hlt)
   have hkll:=HKL.out
   clear hos hgl
   go_upto_region 5 with (first | (refine wpList_load_en otP rfl _ rfl g o k rfl es HRD.out HKL.out ?_; rw [HXK.out]) | (refine wpList_store_newag agO rfl _ _ rfl rfl _ rfl rfl rfl (opA_one _ _ _) ?_; intro w4 hv4 hb4))
   replace T:=Hi (T.out.kept hb4)
   replace HPK:=Hi (HPK.out.kept hb4)
   have HOP:=Hi hv4
   have ykd:w4.cell? ⟨wr.heap.size,0,none⟩=some (.int .i64 (opOf x.ops k).k):=(AgAt.cell hv4 0).trans rfl
   have y21:w4.cell? ⟨w.heap.size,1,none⟩=some (ptV gg):=(AgAt.cell T.out.a2 1).trans rfl
   have y22:w4.cell? ⟨w.heap.size,2,none⟩=some (ptV P):=(AgAt.cell T.out.a2 2).trans rfl
   obtain ⟨kd,hkd⟩:∃ kd,(opOf x.ops k).k=kd:=⟨_,rfl⟩
   have HKD:=Hi hkd
   rw [hkd] at ykd
   generalize wr.heap.size=b6 at *
   generalize (enOf es k).q=q at *
   generalize (enOf es k).c=cq at *
   clear hv4 hb4 HRD HKL HXK hkll hkd
   by_cases k1:kd=1
   ·have d1:(kd == (1:Int))=true:=by rw [k1]; rfl
    go_wp2_with (first | (refine wpList_load_ag stT (by kernel_rfl) _ rfl _ rfl (A:=#[.int .i64 (x.t+(k:Int)),.int .i64 x.r]) rfl T.out.a4 ?_) | (refine wpList_load_ag agO (by kernel_rfl) _ rfl _ rfl (A:=opA (opOf x.ops k) q cq) rfl HOP.out ?_))
    refine (T.out.insert q cq hlt HSK.out HPK.out hl HKD.out (by omega)).mono ?_
    rintro e w5 ⟨⟨v,u,rfl⟩,ht⟩
    replace T:=Hi ht
    clear ht
    have y4:w5.cell? ⟨b4,0,none⟩=some (.int .i64 (x.t+(k:Int))):=(AgAt.cell T.out.a4 0).trans rfl
    have yf:=AgAt.free T.out.a4 0
    have hw1:IntKind.i64.wrap (x.t+(k:Int)+1)=x.t+((k+1:Nat):Int):=by rw [wraps_i64 _ (by omega) (by omega)]; omega
    have HE:=Hi (T.out.tick (u:=x.t+((k+1:Nat):Int)))
    clear y21 y22 ykd T HPK HSK HKD HOP
    go_wp2
    go_roundw
    case rel=>exact ⟨k+1,by omega,by go_num,HE.out⟩
    case measure=>simp [intOf]; omega
   have d1:(kd == (1:Int))=false:=by rw [beq_eq_false_iff_ne]; exact k1
   by_cases k2:kd=2
   ·have d2:(kd == (2:Int))=true:=by rw [k2]; rfl
    go_wp2_with (first | (refine wpList_load_ag stT (by kernel_rfl) _ rfl _ rfl (A:=#[.int .i64 (x.t+(k:Int)),.int .i64 x.r]) rfl T.out.a4 ?_) | (refine wpList_load_ag agO (by kernel_rfl) _ rfl _ rfl (A:=opA (opOf x.ops k) q cq) rfl HOP.out ?_))
    refine (T.out.insert q cq hlt HSK.out HPK.out hl HKD.out (by omega)).mono ?_
    rintro e w5 ⟨⟨v,u,rfl⟩,ht⟩
    replace T:=Hi ht
    clear ht
    have y4:w5.cell? ⟨b4,0,none⟩=some (.int .i64 (x.t+(k:Int))):=(AgAt.cell T.out.a4 0).trans rfl
    have yf:=AgAt.free T.out.a4 0
    have hw1:IntKind.i64.wrap (x.t+(k:Int)+1)=x.t+((k+1:Nat):Int):=by rw [wraps_i64 _ (by omega) (by omega)]; omega
    have HE:=Hi (T.out.tick (u:=x.t+((k+1:Nat):Int)))
    clear y21 y22 ykd T HPK HSK HKD HOP
    go_wp2
    go_roundw
    case rel=>exact ⟨k+1,by omega,by go_num,HE.out⟩
    case measure=>simp [intOf]; omega
   have d2:(kd == (2:Int))=false:=by rw [beq_eq_false_iff_ne]; exact k2
   by_cases k5:kd=5
   ·have d5:(kd == (5:Int))=true:=by rw [k5]; rfl
    go_wp2_with (first | (refine wpList_load_ag stT (by kernel_rfl) _ rfl _ rfl (A:=#[.int .i64 (x.t+(k:Int)),.int .i64 x.r]) rfl T.out.a4 ?_) | (refine wpList_load_ag agO (by kernel_rfl) _ rfl _ rfl (A:=opA (opOf x.ops k) q cq) rfl HOP.out ?_))
    refine (T.out.insert q cq hlt HSK.out HPK.out hl HKD.out (by omega)).mono ?_
    rintro e w5 ⟨⟨v,u,rfl⟩,ht⟩
    replace T:=Hi ht
    clear ht
    have y4:w5.cell? ⟨b4,0,none⟩=some (.int .i64 (x.t+(k:Int))):=(AgAt.cell T.out.a4 0).trans rfl
    have yf:=AgAt.free T.out.a4 0
    have hw1:IntKind.i64.wrap (x.t+(k:Int)+1)=x.t+((k+1:Nat):Int):=by rw [wraps_i64 _ (by omega) (by omega)]; omega
    have HE:=Hi (T.out.tick (u:=x.t+((k+1:Nat):Int)))
    clear y21 y22 ykd T HPK HSK HKD HOP
    go_wp2
    go_roundw
    case rel=>exact ⟨k+1,by omega,by go_num,HE.out⟩
    case measure=>simp [intOf]; omega
   have d5:(kd == (5:Int))=false:=by rw [beq_eq_false_iff_ne]; exact k5
   go_wp2_with (first | (refine wpList_load_ag stT (by kernel_rfl) _ rfl _ rfl (A:=#[.int .i64 (x.t+(k:Int)),.int .i64 x.r]) rfl T.out.a4 ?_) | (refine wpList_load_ag agO (by kernel_rfl) _ rfl _ rfl (A:=opA (opOf x.ops k) q cq) rfl HOP.out ?_))
   refine (T.out.do_ q cq hlt HSK.out HPK.out HKD.out (by omega)).mono ?_
   rintro e w5 ⟨⟨v,rfl⟩,ht⟩
   replace T:=Hi ht
   clear ht
   have y4:w5.cell? ⟨b4,0,none⟩=some (.int .i64 (x.t+(k:Int))):=(AgAt.cell T.out.a4 0).trans rfl
   have yf:=AgAt.free T.out.a4 0
   have hw1:IntKind.i64.wrap (x.t+(k:Int)+1)=x.t+((k+1:Nat):Int):=by rw [wraps_i64 _ (by omega) (by omega)]; omega
   have HE:=Hi (T.out.tick (u:=x.t+((k+1:Nat):Int)))
   clear y21 y22 ykd T HPK HSK HKD HOP
   go_wp2
   go_roundw
   case rel=>exact ⟨k+1,by omega,by go_num,HE.out⟩
   case measure=>simp [intOf]; omega
  ·obtain rfl:k=x.ops.length:=by omega
   have hd0:decide ((x.ops.length:Int)<(x.ops.length:Int))=false:=decide_eq_false (by omega)
   have HE:=Hi (show DWrote d l gg P L (ws ++ wrB x) c w wr from by
    obtain ⟨c',⟨h1,h2⟩,-⟩:=T.out.dc1
    rw [List.take_of_length_le (by rw [wrB_length]; exact Nat.le_refl _)] at h1
    exact ⟨c',h1,h2⟩)
   clear T
   go_wp2
   go_end0
   exact ⟨rfl,HE.out⟩
open Go.RowKit
theorem wtB_take {l:List Bat} {k:Nat} {x:Bat} (h:l[k]?=some x):wtB (l.take k)+x.ops.length≤wtB l:=by
 obtain ⟨hk,h2⟩:=List.getElem?_eq_some_iff.1 h
 have h3:l.take (k+1)=l.take k ++ [x]:=by rw [List.take_add_one,h]; rfl
 have h4:=wtB_append (l.take (k+1)) (l.drop (k+1))
 rw [List.take_append_drop,h3,wtB_append] at h4
 simp only [wtB] at h4
 omega
theorem wtB_len:∀ {l:List Bat},(∀ x ∈ l,rightT x=true)→l.length≤wtB l
 | [],_=>Nat.le_refl _
 | x :: l,h=>by
  have h1:=wtB_len fun y hy=>h y (List.mem_cons_of_mem _ hy)
  have h2:=(rightT_iff.1 (h x (by simp))).2.2.1
  simp only [wtB,List.length_cons]
  omega
section
variable {W W' w:World} {d l gg P:Nat} {L:Lg} {ws:List Pm.Wr} {c:Nat→Nat}
structure ApI (w:World) (d l gg P:Nat) (L:Lg) (ws:List Pm.Wr) (c:Nat→Nat) (p':Option Addr) (lo:List Be) (k b6:Nat) (W:World):Prop where
 dc:∃ c1,Dc W d l gg P L (ws ++ wrL ((lo.map (·.x)).take k)) c1∧DGo w c W c1∧c1 b6=0∧(∀ e,e ∈ lo→BopsF (fun j=>c1 j=0) W e.x e.p e.c)∧(0<lo.length→∀ a,p'=some a→c1 a.block=0)
 a6:AgAt W b6 #[ptV l,ptV gg,ptV P]
 rd:Rd W p' (beCells lo)
theorem ApI.kept {p':Option Addr} {lo:List Be} {k b6:Nat} (h:ApI w d l gg P L ws c p' lo k b6 W) (hb:Below W.heap.size W W'):ApI w d l gg P L ws c p' lo k b6 W':=by
 obtain ⟨⟨c1,h1,h2,h3,h4,h5⟩,a6,rd⟩:=h
 exact ⟨⟨c1,h1.kept hb,h2.trans (DGo.of_below hb),h3,fun e he=>(h4 e he).below hb,h5⟩,a6.kept hb,rd.below hb⟩
theorem ApI.take {p':Option Addr} {lo:List Be} {k b6:Nat} (h:ApI w d l gg P L ws c p' lo k b6 W) (hk:k<lo.length) (hx:∀ e,e ∈ lo→OkB e.x) (hl:ws.length+wtB (lo.map (·.x))<80) :
  Calls Tryz.prog 119 #[.agg #[ptV l,ptV gg,ptV P],.agg (btA (beOf lo k).x (beOf lo k).p (beOf lo k).c)] W fun e w'=>e=.returned (.tuple #[])∧ApI w d l gg P L ws c p' lo (k+1) b6 w':=by
 obtain ⟨⟨c1,h1,h2,h3,h4,h5⟩,a6,rd⟩:=h
 have hm:=beOf_mem hk
 have hgk:(lo.map (·.x))[k]?=some (beOf lo k).x:=by simp [beOf,hk]
 have hle:=wtB_take hgk
 refine (dtake_any (beOf lo k).x (beOf lo k).p (beOf lo k).c W h1 (hx _ hm) (h4 _ hm) (by rw [List.length_append,wrL_length]; omega)).mono ?_
 rintro e w' ⟨rfl,c2,k1,k2⟩
 have hz:∀ j,c1 j=0→¬ (1≤c1 j∧c1 j≤3):=fun j e=>by omega
 rw [List.append_assoc,← wrL_take _ _ _ hgk] at k1
 have hp0:0<lo.length:=by omega
 refine ⟨rfl,⟨c2,k1,h2.trans k2,?_,fun e he=>?_,fun h0 a ha=>?_⟩,a6.turn k2.turns (hz _ h3),k2.turns.rd rd fun a ha=>hz _ (h5 hp0 a ha)⟩
 ·rw [k2.keep _ (AgAt.lt a6),h3]
 ·have hb:=(h4 e he).mono (G:=fun j=>j<W.heap.size∧c1 j=0) fun j k3 k4=>⟨k3,k4⟩
  have hb2:=hb.turns k2.turns fun j hj=>hz j hj.2
  exact hb2.mono fun j _ hj=>by rw [k2.keep j hj.1,hj.2]
 ·obtain ⟨b,o,e,hb⟩:=rd.addr (by rw [beCells_length]; omega)
  rw [ha] at e
  cases e
  rw [k2.keep _ hb,h5 h0 _ ha]
theorem Dc.add (x:Bat) (p:Option Addr) (cc:Nat) (h:Dc W d l gg P L ws c) (hs:Szs x.ops) (hcp:CpSz x) (hbo:Bops W x p cc) :
  Calls Tryz.prog 118 #[ptV l,.agg (btA x p cc)] W fun e w'=>∃ (p':Option Addr) (c':Nat) (lo:List Be) (c1:Nat→Nat),e=.returned (.tuple #[.slice p' lo.length c',.int .i64 (addL L x).2.2])∧lo.map (·.x)=(addL L x).2.1∧(∀ e,e ∈ lo→OkB e.x) ∧
   Dc w' d l gg P (addL L x).1 ws c1∧DGo W c w' c1∧Rd w' p' (beCells lo)∧(∀ e,e ∈ lo→BopsF (fun j=>c1 j=0) w' e.x e.p e.c)∧(∀ a,p'=some a→c1 a.block=0):=by
 obtain ⟨S,M,m,F,χ,M1,M2,M3,h,rfl⟩:=h
 refine (ladd_any x p cc W h.lo hs hcp hbo).mono ?_
 rintro e w' ⟨m',p',c',n1,lo,rfl,hlo,hlg,hlx,⟨hbr,-⟩,hn1,hn2,ht⟩
 obtain ⟨c1,k1,k2,k3⟩:=h.log hlo ht hn2
 obtain ⟨p2,c2,e2,h1,-,-,-,h2⟩:=own_rd hbr.own
 obtain ⟨rfl,rfl⟩:p'=p2∧c'=c2:=by cases e2; exact ⟨rfl,rfl⟩
 refine ⟨p',c',lo,c1,rfl,hlx,fun e he=>?_,⟨S,M,m',_,χ,M1,M2,M3,k1,hlg⟩,k2,h1,fun e he=>(hbr.ops e he).mono fun j _ hj=>k3 j hj.1 (Nat.le_trans hn1 hj.1),fun a ha=>k3 _ (h2 a ha).1 (Nat.le_trans hn1 (h2 a ha).1)⟩
 have hm:e.x ∈ (addL m.lg x).2.1:=by rw [← hlx]; exact List.mem_map.2 ⟨e,he,rfl⟩
 by_cases hr:rightT x=true
 ·have hok:=hlo.ok
  rw [hlg] at hok
  refine hok.right x.r.toNat (right_r hr).1 _ ?_
  rw [(addL_row m.lg x).1]
  exact List.mem_append_right _ hm
 ·rw [addL_bad (by simpa using hr)] at hm
  cases hm
end
theorem dapply_any {d l gg P:Nat} {L:Lg} {ws:List Pm.Wr} {c:Nat→Nat} (x:Bat) (p:Option Addr) (cc:Nat) (w:World) (h:Dc w d l gg P L ws c) (hs:Szs x.ops) (hcp:CpSz x) (hbo:Bops w x p cc) (hl:ws.length+wtB (addL L x).2.1<80) :
  Calls Tryz.prog 34 #[ptV d,.agg (btA x p cc)] w fun e w'=>e=.returned (.tuple #[.int .i64 ((addL L x).2.1.length:Int),.int .i64 (addL L x).2.2])∧DWrote d l gg P (addL L x).1 (addW L ws x) c w w':=by
 have hb:=(Below.refl w.heap.size w).alloc (Nat.le_refl _) (.cells (btA x p cc) 81)
 have HD:=Hi (h.kept hb)
 have HX:=Hi (AgAt.new w (btA x p cc) 81)
 have HBO:=Hi (hbo.kept hb)
 have HB:=Hi hb
 have HO:=Hi (down_any _ HD.out.box)
 have HZ:=Hi (show ∀ k,w.heap.size≤k→c k=0 from fun k hk=>h.zero hk)
 have HL:=Hi hl
 clear h hb hbo hl
 go_enter Tryz.func34,Tryz.ntmps34
 go_upto_region 1 with fail
 generalize w.alloc (.cells (btA x p cc) 81)=w0 at *
 go_wp2_with fail
 refine HO.out.mono ?_
 rintro e w1 ⟨rfl,hb1⟩
 go_upto_region 2 with (refine wpList_store_newag paT rfl _ _ rfl rfl _ (A:=#[ptV l,ptV gg,ptV P]) rfl rfl rfl ptA_one ?_; intro w2 hv2 hb2)
 have hbw:=(HB.out.trans (hb1.mono HB.out.size))
 have HA6:=Hi hv2
 have HB2:=Hi (hbw.trans (hb2.mono hbw.size))
 have HX2:=Hi ((AgAt.kept HX.out hb1).kept hb2)
 have HAD:=Hi (((HD.out.kept hb1).kept hb2).add x p cc hs hcp ((HBO.out.kept hb1).kept hb2))
 have H6:=Hi (show w.heap.size≤w1.heap.size from hbw.size)
 obtain ⟨b6,hb6⟩:∃ b,b=w1.heap.size:=⟨_,rfl⟩
 rw [← hb6] at HA6 H6 ⊢
 have y6:w2.cell? ⟨b6,0,none⟩=some (ptV l):=(AgAt.cell HA6.out 0).trans rfl
 clear hv2 hb2 hb1 hbw hb6 HD HX HBO HB HO
 go_wp2_with (refine wpList_load_ag btP (by kernel_rfl) _ rfl _ rfl (A:=btA x p cc) rfl HX2.out ?_)
 refine HAD.out.mono ?_
 rintro e w3 ⟨p',c',lo,c1,rfl,hlx,hok,hd3,hg3,hr3,ho3,hp3⟩
 have T:=Hi (show ApI w d l gg P (addL L x).1 ws c p' lo 0 b6 w3 from ⟨⟨c1,by rw [List.take_zero]; exact (List.append_nil ws).symm ▸ hd3,(DGo.of_below HB2.out).trans hg3,by rw [hg3.keep _ (AgAt.lt HA6.out)]; exact HZ.out _ H6.out,ho3,fun _=>hp3⟩,
  HA6.out.turn hg3.turns (by rw [HZ.out _ H6.out]; decide),hr3⟩)
 have HOK:=Hi hok
 have HLW:=Hi (show ws.length+wtB (lo.map (·.x))<80 from by rw [hlx]; exact HL.out)
 have HLX:=Hi hlx
 have hln:lo.length<80:=by
  have h1:=wtB_len (l:=lo.map (·.x)) fun y hy=>by
   obtain ⟨e,he,rfl⟩:=List.mem_map.1 hy
   exact (hok e he).right
  rw [List.length_map] at h1
  have h2:=HLW.out
  omega
 have HLN:=Hi (show (addL L x).2.1.length=lo.length from by rw [← hlx,List.length_map])
 clear hlx hok hd3 hg3 hr3 ho3 hp3 HAD HA6 HX2 y6 HL HZ H6 HB2
 go_wp2
 go_loopw [22] (fun i wr=>∃ k:Nat,k≤lo.length∧i=.int .i64 (k:Int)∧ApI w d l gg P (addL L x).1 ws c p' lo k b6 wr) (fun i _=>lo.length - (intOf i).toNat)
 case atStart=>exact ⟨0,Nat.zero_le _,rfl,T.out⟩
 case round =>
  clear T
  obtain ⟨k,hk,rfl,ht⟩:=hrel
  have T:=Hi ht
  clear ht
  by_cases hlt:k<lo.length
  ·have hd0:decide ((k:Int)<(lo.length:Int))=true:=decide_eq_true (by omega)
   obtain ⟨b,o,rfl,-⟩:=T.out.rd.addr (by rw [beCells_length]; omega)
   go_upto_region 6 with (first | (refine wpList_load_be btP rfl _ rfl b o k rfl lo T.out.rd hlt ?_) | (refine wpList_store_newag btP rfl _ _ rfl rfl _ (A:=btA (beOf lo k).x (beOf lo k).p (beOf lo k).c) rfl rfl rfl (btA_one _ _ _) ?_; intro w4 hv4 hb4))
   replace T:=Hi (T.out.kept hb4)
   have HV:=Hi hv4
   have HT:=Hi (T.out.take hlt HOK.out HLW.out)
   generalize wr.heap.size=b10 at *
   clear hv4 hb4
   go_wp2_with (first | (refine wpList_load_ag paT (by kernel_rfl) _ rfl _ rfl (A:=#[ptV l,ptV gg,ptV P]) rfl T.out.a6 ?_) | (refine wpList_load_ag btP (by kernel_rfl) _ rfl _ rfl (A:=btA (beOf lo k).x (beOf lo k).p (beOf lo k).c) rfl HV.out ?_))
   refine HT.out.mono ?_
   rintro e w5 ⟨rfl,ht⟩
   have HE:=Hi ht
   clear ht HT T HV
   go_wp2
   go_roundw
   case rel=>exact ⟨k+1,by omega,by go_num,HE.out⟩
   case measure=>simp [intOf]; omega
  ·obtain rfl:k=lo.length:=by omega
   have hd0:decide ((lo.length:Int)<(lo.length:Int))=false:=decide_eq_false (by omega)
   have HE:=Hi (show DWrote d l gg P (addL L x).1 (addW L ws x) c w wr from by
    obtain ⟨⟨c1,h1,h2,-⟩,-⟩:=T.out
    rw [List.take_of_length_le (by simp),HLX.out] at h1
    exact ⟨c1,h1,h2⟩)
   have HRE:=Hi (show Ending.returned (.tuple #[.int .i64 (lo.length:Int),.int .i64 (addL L x).2.2])=.returned (.tuple #[.int .i64 ((addL L x).2.1.length:Int),.int .i64 (addL L x).2.2]) from by rw [HLN.out])
   clear T HLW HLX HLN HOK
   go_wp2
   go_ret2
   exact ⟨HRE.out,HE.out⟩
def DMade (w:World) (e:Ending) (w':World):Prop:=∃ d l gg P c,e=.returned (ptV d)∧Dc w' d l gg P Lg.zero [] c∧Below w.heap.size w w'∧∀ k,c k≠0→w.heap.size≤k
theorem dmade_of {w w1 w2 w3 w4:World} {l S M gg P M1 M2 M3:Nat} {m:Sm} {χ:Nat→Nat} (h1:Lo w1 l S M m (fun k=>w.heap.size≤k∧k<w1.heap.size∧k≠l)) (e1:m.lg=Lg.zero) (l1:w.heap.size≤l) (l2:l<w1.heap.size) (b1:Below w.heap.size w w1)
  (h2:Gra w2 gg [] χ) (b2:Below w1.heap.size w1 w2) (f2:∀ k,χ k≠0→w1.heap.size≤k) (g2:w1.heap.size≤gg) (h3:PLay w3 P M1 M2 M3 Pm.Rs.zero) (b3:Below w2.heap.size w2 w3) (p0:w2.heap.size≤P) (p1:w2.heap.size≤M1) (p2:w2.heap.size≤M2) (p3:w2.heap.size≤M3)
  (T:TypeId) (h4:w4=w3.alloc (.cells #[ptV l,ptV gg,ptV P] T)):DMade w (.returned (ptV w3.heap.size)) w4:=by
 subst h4
 have z1:=b1.size
 have z2:=b2.size
 have z3:=b3.size
 have b4:Below w3.heap.size w3 (w3.alloc (.cells #[ptV l,ptV gg,ptV P] T)):=(Below.refl _ _).alloc (Nat.le_refl _) _
 have q0:=AgAt.lt h3.box
 have q1:=h3.v.lt
 have q2:=h3.m.lt
 have q3:=h3.o.lt
 have gl:=h2.lt
 have gc:∀ k,χ k≠0→k<w2.heap.size:=fun k hk=>h2.lts hk
 refine ⟨w3.heap.size,l,gg,P,fun k=>if k<w.heap.size then 0 else if k<w1.heap.size then 1 else if k<w2.heap.size then 2 else if k<w3.heap.size then 3 else if k=w3.heap.size then 4 else 0,rfl,⟨S,M,m,_,χ,M1,M2,M3,
  ⟨AgAt.new w3 _ _,((h1.kept b2).kept b3).kept b4,(h2.kept b3).kept b4,h3.kept b4,fun k hk=>?_,?_,fun k hk=>?_,?_,?_,?_,?_,?_,?_,fun k hk=>?_⟩,e1⟩,b1.trans ((b2.mono z1).trans ((b3.mono (by omega)).trans (b4.mono (by omega)))),fun k hk=>?_⟩
 ·rw [if_neg (by omega),if_pos hk.2.1]
 ·rw [if_neg (by omega),if_pos l2]
 ·have:=f2 k hk
  have:=gc k hk
  rw [if_neg (by omega),if_neg (by omega),if_pos (by omega)]
 ·rw [if_neg (by omega),if_neg (by omega),if_pos (by omega)]
 ·rw [if_neg (by omega),if_neg (by omega),if_neg (by omega),if_pos (by omega)]
 ·rw [if_neg (by omega),if_neg (by omega),if_neg (by omega),if_pos (by omega)]
 ·rw [if_neg (by omega),if_neg (by omega),if_neg (by omega),if_pos (by omega)]
 ·rw [if_neg (by omega),if_neg (by omega),if_neg (by omega),if_pos (by omega)]
 ·rw [if_neg (by omega),if_neg (by omega),if_neg (by omega),if_neg (by omega),if_pos rfl]
 ·have:(w3.alloc (.cells #[ptV l,ptV gg,ptV P] T)).heap.size=w3.heap.size+1:=by simp
  rw [this]
  try dsimp only at hk
  by_cases h:k≤w3.heap.size
  ·omega
  ·rw [if_neg (by omega),if_neg (by omega),if_neg (by omega),if_neg (by omega),if_neg (by omega)] at hk
   exact absurd rfl hk
 ·try dsimp only at hk
  by_cases h:k<w.heap.size
  ·rw [if_pos h] at hk; exact absurd rfl hk
  ·omega
theorem dnew_any (w:World):Calls Tryz.prog 31 #[] w (DMade w):=by
 have HN:=Hi (lnew_any w)
 go_enter Tryz.func31,Tryz.ntmps31
 go_wp2_with fail
 refine HN.out.mono ?_
 rintro e w1 ⟨l,S,M,m,rfl,h1,e1,l1,l2,b1⟩
 go_wp2_with fail
 refine (gnew_any w1).mono ?_
 rintro e w2 ⟨gg,χ,rfl,h2,b2,f2,g2,-⟩
 go_wp2_with fail
 refine (pnew_any w2).mono ?_
 rintro e w3 ⟨P,M1,M2,M3,rfl,h3,b3,p0,p1,p2,p3⟩
 have HE:=Hi (dmade_of h1 e1 l1 l2 b1 h2 b2 f2 g2 h3 b3 p0 p1 p2 p3 122 rfl)
 clear h1 e1 l1 l2 b1 h2 b2 f2 g2 h3 b3 p0 p1 p2 p3 HN
 go_wp2
 go_ret
 exact HE.out
open Go.RowKit
def docs (ls:List Bat):Lg × List Pm.Wr:=ls.foldl (fun D x=>((addL D.1 x).1,addW D.1 D.2 x)) (Lg.zero,[])
theorem docs_snoc (ls:List Bat) (x:Bat):docs (ls ++ [x])=((addL (docs ls).1 x).1,addW (docs ls).1 (docs ls).2 x):=by simp [docs,List.foldl_append]
def DN (w:World) (d:Nat) (D:Lg × List Pm.Wr) (W:World):Prop:=∃ l gg P c,Dc W d l gg P D.1 D.2 c∧Below w.heap.size w W∧∀ k,c k≠0→w.heap.size≤k
section
variable {w W W':World} {d l gg P:Nat} {D D':Lg × List Pm.Wr} {L:Lg} {ws:List Pm.Wr} {c c':Nat→Nat}
theorem DGo.far (h:DGo W c W' c') (hb:Below w.heap.size w W) (hf:∀ k,c k≠0→w.heap.size≤k):Below w.heap.size w W'∧∀ k,c' k≠0→w.heap.size≤k:=by
 refine ⟨hb.trans (h.turns.below (fun k _ hk=>hf k (by omega)) hb.size),fun k hk=>?_⟩
 by_cases hl:k<W.heap.size
 ·rw [h.keep k hl] at hk; exact hf k hk
 ·have:=hb.size; omega
theorem DN.kept (h:DN w d D W) (hb:Below W.heap.size W W'):DN w d D W':=by
 obtain ⟨l,gg,P,c,h1,h2,h3⟩:=h
 exact ⟨l,gg,P,c,h1.kept hb,h2.trans (hb.mono h2.size),h3⟩
theorem DN.bel (h:DN w d D W):Below w.heap.size w W:=by
 obtain ⟨l,gg,P,c,h1,h2,h3⟩:=h
 exact h2
theorem DN.ok (h:DN w d D W):LgOk D.1:=by
 obtain ⟨l,gg,P,c,h1,h2,h3⟩:=h
 exact h1.ok
theorem DN.apply {n:Nat} (x:Bat) (p:Option Addr) (cc:Nat) (h:DN w d D W) (hd:DocOk n D.1 D.2) (hs:Szs x.ops) (hcp:CpSz x) (hbo:Bops W x p cc) (hl:n+x.ops.length<80) :
  Calls Tryz.prog 34 #[ptV d,.agg (btA x p cc)] W fun e w'=>e=.returned (.tuple #[.int .i64 ((addL D.1 x).2.1.length:Int),.int .i64 (addL D.1 x).2.2])∧DN w d ((addL D.1 x).1,addW D.1 D.2 x) w':=by
 obtain ⟨l,gg,P,c,h1,h2,h3⟩:=h
 refine (dapply_any x p cc W h1 hs hcp hbo (Nat.lt_of_le_of_lt (hd.came h1.ok fun hr=>⟨hr,hs,hcp⟩) hl)).mono ?_
 rintro e w' ⟨rfl,c',k1,k2⟩
 obtain ⟨k3,k4⟩:=k2.far h2 h3
 exact ⟨rfl,l,gg,P,c',k1,k3,k4⟩
end
theorem dof_any (p:Option Addr) (cl:Nat) (l:List Be) (w:World) (h:Rd w p (beCells l)) (ho:∀ e,e ∈ l→Bops w e.x e.p e.c) (hs:∀ e,e ∈ l→Szs e.x.ops∧CpSz e.x) (hw:wtB (l.map (·.x))<80) (hl:l.length≤5000) :
  Calls Tryz.prog 49 #[.slice p l.length cl] w fun e w'=>∃ d,e=.returned (ptV d)∧DN w d (docs (l.map (·.x))) w'∧DocOk (wtB (l.map (·.x))) (docs (l.map (·.x))).1 (docs (l.map (·.x))).2:=by
 have HR:=Hi h
 have HO:=Hi ho
 have HS:=Hi hs
 have HW:=Hi hw
 clear h ho hs hw
 go_enter Tryz.func49,Tryz.ntmps49
 go_wp2_with fail
 refine (dnew_any w).mono ?_
 rintro e w1 ⟨d,dl,gg,P,c,rfl,hd,hb,hf⟩
 have HD:=Hi (show DN w d (docs ((l.map (·.x)).take 0)) w1 from ⟨dl,gg,P,c,hd,hb,hf⟩)
 clear hd hb hf
 go_wp2
 go_loopw [9] (fun i wr=>∃ k:Nat,k≤l.length∧i=.int .i64 (k:Int)∧DN w d (docs ((l.map (·.x)).take k)) wr∧DocOk (wtB ((l.map (·.x)).take k)) (docs ((l.map (·.x)).take k)).1 (docs ((l.map (·.x)).take k)).2) (fun i _=>l.length - (intOf i).toNat)
 case atStart=>exact ⟨0,Nat.zero_le _,rfl,HD.out,DocOk.zero⟩
 case round =>
  clear HD
  obtain ⟨k,hk,rfl,hd,hdo⟩:=hrel
  have HD:=Hi hd
  have HDO:=Hi hdo
  clear hd hdo
  by_cases hlt:k<l.length
  ·have hd0:decide ((k:Int)<(l.length:Int))=true:=decide_eq_true (by omega)
   obtain ⟨b,o,rfl,-⟩:=HR.out.addr (by rw [beCells_length]; omega)
   have HRD:=Hi (HR.out.below HD.out.bel)
   have hgk:(l.map (·.x))[k]?=some (beOf l k).x:=by simp [beOf,hlt]
   have HLE:=Hi (show wtB ((l.map (·.x)).take k)+(beOf l k).x.ops.length<80 from Nat.lt_of_le_of_lt (wtB_take hgk) HW.out)
   have HTK:=Hi (show (l.map (·.x)).take (k+1)=(l.map (·.x)).take k ++ [(beOf l k).x] from by rw [List.take_add_one,hgk]; rfl)
   have HBE:=Hi (show Bops w (beOf l k).x (beOf l k).p (beOf l k).c∧Szs (beOf l k).x.ops∧CpSz (beOf l k).x from ⟨HO.out _ (beOf_mem hlt),HS.out _ (beOf_mem hlt)⟩)
   clear hgk
   go_upto_region 5 with (first | (refine wpList_load_be btP rfl _ rfl b o k rfl l HRD.out hlt ?_) | (refine wpList_store_newag btP rfl _ _ rfl rfl _ (A:=btA (beOf l k).x (beOf l k).p (beOf l k).c) rfl rfl rfl (btA_one _ _ _) ?_; intro w4 hv4 hb4))
   replace HD:=Hi (HD.out.kept hb4)
   have HV:=Hi hv4
   generalize wr.heap.size=b5 at *
   generalize beOf l k=be at *
   have HA:=Hi (HD.out.apply be.x be.p be.c HDO.out HBE.out.2.1 HBE.out.2.2 (HBE.out.1.kept HD.out.bel) HLE.out)
   have HOK:=Hi (HDO.out.add (x:=be.x) HD.out.ok fun hr=>⟨hr,HBE.out.2.1,HBE.out.2.2⟩)
   clear hv4 hb4
   go_wp2_with (refine wpList_load_ag btP (by kernel_rfl) _ rfl _ rfl (A:=btA be.x be.p be.c) rfl HV.out ?_)
   refine HA.out.mono ?_
   rintro e w5 ⟨rfl,hd⟩
   have HE:=Hi (show DN w d (docs ((l.map (·.x)).take (k+1))) w5∧DocOk (wtB ((l.map (·.x)).take (k+1))) (docs ((l.map (·.x)).take (k+1))).1 (docs ((l.map (·.x)).take (k+1))).2 from by
    rw [HTK.out,docs_snoc,wtB_append]
    refine ⟨hd,?_⟩
    have:=HOK.out
    simpa only [wtB,Nat.add_zero] using this)
   clear hd HA HOK HD HDO HTK HLE HBE HV
   go_wp2
   go_roundw
   case rel=>exact ⟨k+1,by omega,by go_num,HE.out.1,HE.out.2⟩
   case measure=>simp [intOf]; omega
  ·obtain rfl:k=l.length:=by omega
   have hd0:decide ((l.length:Int)<(l.length:Int))=false:=decide_eq_false (by omega)
   have HE:=Hi (show DN w d (docs (l.map (·.x))) wr∧DocOk (wtB (l.map (·.x))) (docs (l.map (·.x))).1 (docs (l.map (·.x))).2 from by
    have h1:=HD.out
    have h2:=HDO.out
    rw [List.take_of_length_le (by simp)] at h1 h2
    exact ⟨h1,h2⟩)
   clear HD HDO
   go_wp2
   go_ret
   exact ⟨d,rfl,HE.out.1,HE.out.2⟩
end Go.Proofs.YthfhefdfehlbkaaGreat
