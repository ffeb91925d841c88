/-
  NO GRAPH, and one that nobody made: what each call answers.
  No conditions.
  NO DOCUMENT, and one that nobody made: what each call answers.
  No conditions.
-/
import Derived.Test.YthfhefdfehlbkaaGreatSh
import Derived.Test.YthfhefdfehlbkaaGreatK31
import Derived.Test.YthfhefdfehlbkaaGreatK24
import Derived.Test.YthfhefdfehlbkaaGreatK32
import Derived.Test.YthfhefdfehlbkaaGreatK08
set_option maxRecDepth 100000
set_option maxHeartbeats 4000000
namespace Go.Proofs.YthfhefdfehlbkaaGreat
open Go.RowKit
open Tm (Sp Tr has put cut kids)
def NoG (W:World) (v:Value):Prop:=v=.pointer none ∨ ∃ b,v=ptV b∧AgAt W b #[.pointer none]
theorem NoG.kept {W W':World} {v:Value} (h:NoG W v) (hb:Below W.heap.size W W'):NoG W' v:=by
 rcases h with h | ⟨b,h1,h2⟩
 ·exact Or.inl h
 ·exact Or.inr ⟨b,h1,h2.kept hb⟩
theorem bel_alloc (W:World) (o:Obj):Below W.heap.size W (W.alloc o):=(Below.refl _ _).alloc (Nat.le_refl _) o
theorem bel_alloc2 (W:World) (o o':Obj):Below W.heap.size W ((W.alloc o).alloc o'):=(bel_alloc W o).trans ((bel_alloc (W.alloc o) o').mono (bel_alloc W o).size)
theorem run_build_zsp (w:World):(Instr.build 106 #[]).run Tryz.prog w=.ok (.agg (spA zS)) w:=by kernel_rfl
theorem run_build_zst (w:World):(Instr.build 35 #[]).run Tryz.prog w=.ok (.agg #[.int .i64 0,.int .i64 0]) w:=by kernel_rfl
theorem nours_any (v:Value) (W:World) (h:NoG W v):Calls Tryz.prog 77 #[v] W fun e w'=>e=.returned (.bool false)∧W=w':=by
 rcases h with rfl | ⟨b,rfl,hb⟩
 ·go_enter Tryz.func77,Tryz.ntmps77
  go_wp2
  go_ret
  exact ⟨rfl,rfl⟩
 ·have y:W.cell? ⟨b,0,none⟩=some (.pointer none):=(AgAt.cell hb 0).trans rfl
  clear hb
  go_enter Tryz.func77,Tryz.ntmps77
  go_wp2
  go_ret
  exact ⟨rfl,rfl⟩
theorem nnodes_any (v:Value) (W:World) (h:NoG W v):Calls Tryz.prog 25 #[v] W fun e w'=>e=.returned (.slice none 0 0)∧Below W.heap.size W w':=by
 have HN:=Hi h
 clear h
 go_enter Tryz.func25,Tryz.ntmps25
 go_wp2_with fail
 refine (nours_any v _ HN.out).mono ?_
 rintro e w1 ⟨rfl,rfl⟩
 go_wp2
 go_ret
 exact ⟨rfl,Below.refl _ _⟩
theorem nrow_any (v:Value) (s:Qm.St) (W:World) (h:NoG W v):Calls Tryz.prog 105 #[v,snV s] W fun e w'=>e=.returned (.slice none 0 0)∧Below W.heap.size W w':=by
 have HN:=Hi h
 clear h
 go_enter Tryz.func105,Tryz.ntmps105
 go_wp2_with fail
 refine (nours_any v _ (HN.out.kept (bel_alloc _ _))).mono ?_
 rintro e w1 ⟨rfl,rfl⟩
 go_wp2
 go_ret
 exact ⟨rfl,bel_alloc _ _⟩
theorem nabove_any (v:Value) (s:Qm.St) (W:World) (h:NoG W v):Calls Tryz.prog 107 #[v,snV s] W fun e w'=>e=.returned (.slice none 0 0)∧Below W.heap.size W w':=by
 have HN:=Hi h
 clear h
 go_enter Tryz.func107,Tryz.ntmps107
 go_wp2_with fail
 refine (nours_any v _ (HN.out.kept (bel_alloc _ _))).mono ?_
 rintro e w1 ⟨rfl,rfl⟩
 go_wp2
 go_ret
 exact ⟨rfl,bel_alloc _ _⟩
theorem nsame_any (v:Value) (u:Value) (W:World) (h:NoG W v):Calls Tryz.prog 22 #[v,u] W fun e w'=>e=.returned (.bool false)∧Below W.heap.size W w':=by
 have HN:=Hi h
 clear h
 go_enter Tryz.func22,Tryz.ntmps22
 go_wp2_with fail
 refine (nours_any v _ HN.out).mono ?_
 rintro e w1 ⟨rfl,rfl⟩
 go_wp2
 go_ret
 exact ⟨rfl,Below.refl _ _⟩
theorem nspot_any (v:Value) (s:Qm.St) (W:World) (h:NoG W v):Calls Tryz.prog 74 #[v,snV s] W fun e w'=>e=.returned (.tuple #[.agg (spA zS),.bool false])∧Below W.heap.size W w':=by
 have HN:=Hi h
 have HB1:=Hi (show AgAt ((W.alloc (.cells (stA s) 35)).alloc (.cells (spA zS) 106)) (W.heap.size+1) (spA zS) from by
  have:=AgAt.new (W.alloc (.cells (stA s) 35)) (spA zS) 106
  rw [show (W.alloc (.cells (stA s) 35)).heap.size=W.heap.size+1 from by simp] at this
  exact this)
 have hbz:=run_build_zsp
 clear h
 go_enter Tryz.func74,Tryz.ntmps74
 go_wp2_with fail
 refine (nours_any v _ (HN.out.kept (bel_alloc2 _ _ _))).mono ?_
 rintro e w1 ⟨rfl,rfl⟩
 go_wp2
 refine bodyPost_ret (results_two spT _ rfl rfl HB1.out rfl rfl) rfl ?_
 exact ⟨rfl,bel_alloc2 _ _ _⟩
theorem nref_any (v:Value) (s:Qm.St) (W:World) (h:NoG W v):Calls Tryz.prog 100 #[v,snV s] W fun e w'=>e=.returned (.tuple #[.agg #[.int .i64 0,.int .i64 0],.bool false])∧Below W.heap.size W w':=by
 have HN:=Hi h
 have HB1:=Hi (show AgAt ((W.alloc (.cells (stA s) 35)).alloc (.cells (#[.int .i64 0,.int .i64 0]:Array Value) 35)) (W.heap.size+1) (#[.int .i64 0,.int .i64 0]:Array Value) from by
  have:=AgAt.new (W.alloc (.cells (stA s) 35)) (#[.int .i64 0,.int .i64 0]:Array Value) 35
  rw [show (W.alloc (.cells (stA s) 35)).heap.size=W.heap.size+1 from by simp] at this
  exact this)
 have hbz:=run_build_zst
 clear h
 go_enter Tryz.func100,Tryz.ntmps100
 go_wp2_with fail
 refine (nours_any v _ (HN.out.kept (bel_alloc2 _ _ _))).mono ?_
 rintro e w1 ⟨rfl,rfl⟩
 go_wp2_with (refine wpList_store_ag stT rfl _ _ rfl _ rfl _ HB1.out rfl rfl rfl (stA_one 0 0) ?_; intro w2 hv hko hsz hbn)
 have HE:=Hi (hbn _ _ (bel_alloc2 W _ _) (Nat.le_succ _))
 clear hko hsz hbn hbz HB1
 refine bodyPost_ret (results_two stT _ rfl rfl hv rfl rfl) rfl ?_
 exact ⟨rfl,HE.out⟩
theorem nhas_any (v:Value) (s:Qm.St) (W:World) (h:NoG W v):Calls Tryz.prog 103 #[v,snV s] W fun e w'=>e=.returned (.bool false)∧Below W.heap.size W w':=by
 have HB:=Hi (bel_alloc W (.cells (stA s) 35))
 have HN:=Hi (h.kept HB.out)
 clear h
 go_enter Tryz.func103,Tryz.ntmps103
 go_upto_region 1 with fail
 generalize W.alloc (.cells (stA s) 35)=w1 at *
 refine wp_region_held_drew (S:=fun w'=>Below w1.heap.size w1 w') (by kernel_rfl) (Below.drew (Below.refl _ _)) (fun hS=>?_)
 refine tX 0 rfl hS ?_
 go_simp
 refine rD 1 rfl (fun K hK=>?_)
 go_simp
 go_wp2_with ((go_at_call 77; refine (nours_any v _ (HN.out.kept hS)).mono ?_; rintro e wn ⟨rfl,rfl⟩))
 refine hK.out _ _ hS (fun hS=>?_)
 clear hK K
 refine tX 2 rfl hS ?_
 go_simp
 refine tU 3 rfl hS ?_
 go_simp
 refine tU 4 rfl hS ?_
 go_simp
 refine tU 5 rfl hS ?_
 go_simp
 refine tU 6 rfl hS ?_
 go_simp
 refine tU 7 rfl hS ?_
 go_simp
 refine tU 8 rfl hS ?_
 go_simp
 refine tU 9 rfl hS ?_
 refine tX 10 rfl hS ?_
 refine tX 11 rfl hS ?_
 go_simp
 refine wpAnyH_done (by kernel_rfl) ?_ _
 go_simp
 have HE:=Hi (HB.out.trans (hS.mono HB.out.size))
 clear hS
 go_wp2
 go_ret
 exact ⟨rfl,HE.out⟩
theorem nreach_any (v:Value) (n m:Qm.St) (up:Bool) (W:World) (h:NoG W v):Calls Tryz.prog 75 #[v,snV n,snV m,.bool up] W fun e w'=>e=.returned (.bool false)∧Below W.heap.size W w':=by
 have HB:=Hi (bel_alloc2 W (.cells (stA n) 35) (.cells (stA m) 35))
 have HA:=Hi ((AgAt.new W (stA n) 35).kept (bel_alloc _ (.cells (stA m) 35)))
 have HN:=Hi (h.kept HB.out)
 clear h
 go_enter Tryz.func75,Tryz.ntmps75
 go_upto_region 1 with fail
 generalize (W.alloc (.cells (stA n) 35)).alloc (.cells (stA m) 35)=w1 at *
 refine wp_region_held_drew (S:=fun w'=>Below w1.heap.size w1 w') (by kernel_rfl) (Below.drew (Below.refl _ _)) (fun hS=>?_)
 refine tX 0 rfl hS ?_
 go_simp
 refine tK 1 (v:=snV n) rfl (fun w' hSW=>exec_load_ag stT rfl rfl rfl (HA.out.kept hSW)) hS ?_
 go_simp
 refine rD 2 rfl (fun K hK=>?_)
 go_simp
 go_wp2_with ((go_at_call 103; refine (nhas_any v n _ (HN.out.kept hS)).mono ?_; rintro e wn ⟨rfl,hbn⟩))
 refine hK.out _ _ (hS.trans (hbn.mono hS.size)) (fun hS=>?_)
 clear hK K hbn
 refine tX 3 rfl hS ?_
 go_simp
 refine tU 4 rfl hS ?_
 go_simp
 refine tU 5 rfl hS ?_
 go_simp
 refine tU 6 rfl hS ?_
 refine tX 7 rfl hS ?_
 refine tX 8 rfl hS ?_
 go_simp
 refine tU 9 rfl hS ?_
 go_simp
 refine tU 10 rfl hS ?_
 go_simp
 refine tU 11 rfl hS ?_
 go_simp
 refine tU 12 rfl hS ?_
 go_simp
 refine tU 13 rfl hS ?_
 go_simp
 refine tU 14 rfl hS ?_
 refine tX 15 rfl hS ?_
 refine tX 16 rfl hS ?_
 go_simp
 refine wpAnyH_done (by kernel_rfl) ?_ _
 go_simp
 have HE:=Hi (HB.out.trans (hS.mono HB.out.size))
 clear hS
 go_wp2
 go_ret
 exact ⟨rfl,HE.out⟩
open Go.RowKit
open Tm (Sp Tr)
abbrev n3:Array Value:=#[.pointer none,.pointer none,.pointer none]
theorem n3_one:n3.all (·.oneCell')=true:=all_oneCell_toArray (cs:=[.pointer none,.pointer none,.pointer none]) (by
 intro v hv
 simp only [List.mem_cons,List.not_mem_nil,or_false] at hv
 rcases hv with rfl | rfl | rfl <;> rfl)
def NoD (W:World) (v:Value):Prop:=v=.pointer none ∨ ∃ b,v=ptV b∧AgAt W b n3
theorem NoD.kept {W W':World} {v:Value} (h:NoD W v) (hb:Below W.heap.size W W'):NoD W' v:=by
 rcases h with h | ⟨b,h1,h2⟩
 ·exact Or.inl h
 ·exact Or.inr ⟨b,h1,h2.kept hb⟩
theorem field_n0 (W:World):(Instr.field 120 (.agg n3) 0).run Tryz.prog W=.ok (.pointer none) W:=by kernel_rfl
theorem field_n1 (W:World):(Instr.field 120 (.agg n3) 1).run Tryz.prog W=.ok (.pointer none) W:=by kernel_rfl
theorem field_n2 (W:World):(Instr.field 120 (.agg n3) 2).run Tryz.prog W=.ok (.pointer none) W:=by kernel_rfl
theorem run_build_n3 (w:World):(Instr.build 120 #[]).run Tryz.prog w=.ok (.agg n3) w:=by kernel_rfl
theorem gn (W:World):NoG W (.pointer none):=Or.inl rfl
theorem ln (W:World):NoL W (.pointer none):=Or.inl rfl
theorem rn (W:World):NoR W (.pointer none):=Or.inl rfl
theorem nown_any (v:Value) (w:World) (h:NoD w v):Calls Tryz.prog 115 #[v] w fun e w'=>e=.returned (.agg n3)∧Below w.heap.size w w':=by
 have hz:=run_build_n3
 rcases h with rfl | ⟨b,rfl,hb⟩
 ·go_enter Tryz.func115,Tryz.ntmps115
  go_wp2_with (refine wpList_store_newag paT rfl _ _ rfl rfl _ (A:=n3) rfl rfl rfl n3_one ?_; intro w2 hv2 hb2)
  exact bodyPost_ret (results_ag paT _ rfl rfl hv2 rfl) rfl ⟨rfl,hb2⟩
 ·have HA:=Hi (hb.kept ((Below.refl _ _).alloc (Nat.le_refl _) (.cells n3 120)))
  clear hb
  go_enter Tryz.func115,Tryz.ntmps115
  go_wp2_with (first | (refine wpList_load_ag paT (by kernel_rfl) _ rfl _ rfl (A:=n3) rfl HA.out ?_) | (refine wpList_store_newag paT rfl _ _ rfl rfl _ (A:=n3) rfl rfl rfl n3_one ?_; intro w2 hv2 hb2))
  exact bodyPost_ret (results_ag paT _ rfl rfl hv2 rfl) rfl ⟨rfl,hb2⟩
theorem dnodes_no (v:Value) (w:World) (h:NoD w v):Calls Tryz.prog 55 #[v] w fun e w'=>e=.returned (.slice none 0 0)∧Below w.heap.size w w':=by
 have HO:=Hi (nown_any v w h)
 have hfd:=field_n1
 clear h
 go_enter Tryz.func55,Tryz.ntmps55
 go_wp2_with fail
 refine HO.out.mono ?_
 rintro e w1 ⟨rfl,hb1⟩
 have HB:=Hi hb1
 clear hb1 HO
 go_wp2_with fail
 refine (nnodes_any (.pointer none) w1 (gn _)).mono ?_
 rintro e w2 ⟨rfl,hb2⟩
 have HE:=Hi (HB.out.trans (hb2.mono HB.out.size))
 clear HB hb2
 go_wp2
 go_ret
 exact ⟨rfl,HE.out⟩
theorem dlog_no (v:Value) (w:World) (h:NoD w v):Calls Tryz.prog 46 #[v] w fun e w'=>e=.returned (.pointer none)∧Below w.heap.size w w':=by
 have HO:=Hi (nown_any v w h)
 have hfd:=field_n0
 clear h
 go_enter Tryz.func46,Tryz.ntmps46
 go_wp2_with fail
 refine HO.out.mono ?_
 rintro e w1 ⟨rfl,hb1⟩
 have HB:=Hi hb1
 clear hb1 HO
 go_wp2_with fail
 refine (lclone_no (.pointer none) w1 (ln _)).mono ?_
 rintro e w2 ⟨rfl,hb2⟩
 have HE:=Hi (HB.out.trans (hb2.mono HB.out.size))
 clear HB hb2
 go_wp2
 go_ret
 exact ⟨rfl,HE.out⟩
theorem dtime_no (v:Value) (w:World) (h:NoD w v):Calls Tryz.prog 44 #[v] w fun e w'=>e=.returned (.int .i64 0)∧Below w.heap.size w w':=by
 have HO:=Hi (nown_any v w h)
 have hfd:=field_n0
 clear h
 go_enter Tryz.func44,Tryz.ntmps44
 go_wp2_with fail
 refine HO.out.mono ?_
 rintro e w1 ⟨rfl,hb1⟩
 have HB:=Hi hb1
 clear hb1 HO
 go_wp2_with fail
 refine (ltime_no (.pointer none) w1 (ln _)).mono ?_
 rintro e w2 ⟨rfl,hb2⟩
 have HE:=Hi (HB.out.trans (hb2.mono HB.out.size))
 clear HB hb2
 go_wp2
 go_ret
 exact ⟨rfl,HE.out⟩
theorem dvector_no (v:Value) (w:World) (h:NoD w v):Calls Tryz.prog 42 #[v] w fun e w'=>e=.returned (.agg (vecA fun _=>0))∧Below w.heap.size w w':=by
 have hfd:=field_n0
 have hb:=(Below.refl w.heap.size w).alloc (Nat.le_refl _) (.cells (vecA fun _=>0) 93)
 have HV:=Hi (VAt.new w (fun _=>0) 93)
 have HO:=Hi (nown_any v _ (h.kept hb))
 have HB:=Hi hb
 clear h hb
 go_enter Tryz.func42,Tryz.ntmps42
 go_wp2_with fail
 refine HO.out.mono ?_
 rintro e w1 ⟨rfl,hb1⟩
 replace HV:=Hi (HV.out.kept hb1)
 replace HB:=Hi (HB.out.trans (hb1.mono HB.out.size))
 clear hb1 HO
 go_wp2_with fail
 refine (lvector_no (.pointer none) w1 (ln _)).mono ?_
 rintro e w2 ⟨rfl,hb2⟩
 replace HV:=Hi (HV.out.kept hb2)
 replace HB:=Hi (HB.out.trans (hb2.mono HB.out.size))
 clear hb2
 go_wp2_with (refine wpList_store_vec vtP rfl _ _ rfl _ rfl _ _ HV.out rfl ?_; intro w3 hv3 _ _ hb3)
 exact bodyPost_ret (results_vec vtP _ rfl hv3 rfl) rfl ⟨rfl,hb3 _ _ HB.out (Nat.le_refl _)⟩
theorem dhas_no (v:Value) (s:Qm.St) (w:World) (h:NoD w v):Calls Tryz.prog 58 #[v,snV s] w fun e w'=>e=.returned (.bool false)∧Below w.heap.size w w':=by
 have hb:=bel_alloc w (.cells (stA s) 35)
 have HN:=Hi (AgAt.new w (stA s) 35)
 have HD:=Hi (h.kept hb)
 have HB:=Hi hb
 clear h hb
 go_enter Tryz.func58,Tryz.ntmps58
 go_upto_region 1 with fail
 generalize w.alloc (.cells (stA s) 35)=w0 at *
 have hbd:=Below.drew (Below.refl w0.heap.size w0)
 replace HD:=Hi (HD.out.kept hbd)
 replace HN:=Hi (AgAt.kept HN.out hbd)
 replace HB:=Hi (HB.out.trans (hbd.mono HB.out.size))
 refine wp_region_held_drew (S:=fun W=>AgAt W w.heap.size (stA s)) (by kernel_rfl) HN.out (fun hS=>?_)
 clear hbd HN
 generalize w0.drew=wd at *
 refine tX 0 rfl hS ?_
 go_simp
 refine tK 3 (v:=snV s) rfl (fun W hSW=>exec_load_ag stT rfl rfl rfl hSW) hS ?_
 go_simp
 refine rD 1 rfl (fun K hK=>?_)
 go_simp
 go_wp2_with (go_at_call 115; refine (nown_any v _ HD.out).mono ?_; rintro e w1 ⟨rfl,hb1⟩)
 replace HB:=Hi (HB.out.trans (hb1.mono HB.out.size))
 refine hK.out _ _ (hS.kept hb1) (fun hS=>?_)
 clear hK K hb1 HD
 refine tK 2 (v:=?_) rfl ?_ hS ?_
 rotate_left
 ·intro W hSW
  have c:=field_n1 W
  go_simp
  all_goals with_reducible rfl
 go_simp
 refine rD 4 rfl (fun K hK=>?_)
 go_simp
 go_wp2_with (go_at_call 103; refine (nhas_any (.pointer none) s _ (gn _)).mono ?_; rintro e w2 ⟨rfl,hb2⟩)
 replace HB:=Hi (HB.out.trans (hb2.mono HB.out.size))
 refine hK.out _ _ (hS.kept hb2) (fun hS=>?_)
 clear hK K hb2
 refine tX 5 rfl hS ?_
 go_simp
 refine wpAnyH_done (by kernel_rfl) ?_ _
 go_simp
 have HE:=Hi HB.out
 clear hS HB
 go_wp2
 go_ret
 exact ⟨rfl,HE.out⟩
theorem drow_no (v:Value) (s:Qm.St) (w:World) (h:NoD w v):Calls Tryz.prog 56 #[v,snV s] w fun e w'=>e=.returned (.slice none 0 0)∧Below w.heap.size w w':=by
 have hb:=bel_alloc w (.cells (stA s) 35)
 have HN:=Hi (AgAt.new w (stA s) 35)
 have HD:=Hi (h.kept hb)
 have HB:=Hi hb
 clear h hb
 go_enter Tryz.func56,Tryz.ntmps56
 go_upto_region 1 with fail
 generalize w.alloc (.cells (stA s) 35)=w0 at *
 have hbd:=Below.drew (Below.refl w0.heap.size w0)
 replace HD:=Hi (HD.out.kept hbd)
 replace HN:=Hi (AgAt.kept HN.out hbd)
 replace HB:=Hi (HB.out.trans (hbd.mono HB.out.size))
 refine wp_region_held_drew (S:=fun W=>AgAt W w.heap.size (stA s)) (by kernel_rfl) HN.out (fun hS=>?_)
 clear hbd HN
 generalize w0.drew=wd at *
 refine tX 0 rfl hS ?_
 go_simp
 refine tK 3 (v:=snV s) rfl (fun W hSW=>exec_load_ag stT rfl rfl rfl hSW) hS ?_
 go_simp
 refine rD 1 rfl (fun K hK=>?_)
 go_simp
 go_wp2_with (go_at_call 115; refine (nown_any v _ HD.out).mono ?_; rintro e w1 ⟨rfl,hb1⟩)
 replace HB:=Hi (HB.out.trans (hb1.mono HB.out.size))
 refine hK.out _ _ (hS.kept hb1) (fun hS=>?_)
 clear hK K hb1 HD
 refine tK 2 (v:=?_) rfl ?_ hS ?_
 rotate_left
 ·intro W hSW
  have c:=field_n1 W
  go_simp
  all_goals with_reducible rfl
 go_simp
 refine rD 4 rfl (fun K hK=>?_)
 go_simp
 go_wp2_with (go_at_call 105; refine (nrow_any (.pointer none) s _ (gn _)).mono ?_; rintro e w2 ⟨rfl,hb2⟩)
 replace HB:=Hi (HB.out.trans (hb2.mono HB.out.size))
 refine hK.out _ _ (hS.kept hb2) (fun hS=>?_)
 clear hK K hb2
 refine tX 5 rfl hS ?_
 go_simp
 refine wpAnyH_done (by kernel_rfl) ?_ _
 go_simp
 have HE:=Hi HB.out
 clear hS HB
 go_wp2
 go_ret
 exact ⟨rfl,HE.out⟩
theorem dabove_no (v:Value) (s:Qm.St) (w:World) (h:NoD w v):Calls Tryz.prog 57 #[v,snV s] w fun e w'=>e=.returned (.slice none 0 0)∧Below w.heap.size w w':=by
 have hb:=bel_alloc w (.cells (stA s) 35)
 have HN:=Hi (AgAt.new w (stA s) 35)
 have HD:=Hi (h.kept hb)
 have HB:=Hi hb
 clear h hb
 go_enter Tryz.func57,Tryz.ntmps57
 go_upto_region 1 with fail
 generalize w.alloc (.cells (stA s) 35)=w0 at *
 have hbd:=Below.drew (Below.refl w0.heap.size w0)
 replace HD:=Hi (HD.out.kept hbd)
 replace HN:=Hi (AgAt.kept HN.out hbd)
 replace HB:=Hi (HB.out.trans (hbd.mono HB.out.size))
 refine wp_region_held_drew (S:=fun W=>AgAt W w.heap.size (stA s)) (by kernel_rfl) HN.out (fun hS=>?_)
 clear hbd HN
 generalize w0.drew=wd at *
 refine tX 0 rfl hS ?_
 go_simp
 refine tK 3 (v:=snV s) rfl (fun W hSW=>exec_load_ag stT rfl rfl rfl hSW) hS ?_
 go_simp
 refine rD 1 rfl (fun K hK=>?_)
 go_simp
 go_wp2_with (go_at_call 115; refine (nown_any v _ HD.out).mono ?_; rintro e w1 ⟨rfl,hb1⟩)
 replace HB:=Hi (HB.out.trans (hb1.mono HB.out.size))
 refine hK.out _ _ (hS.kept hb1) (fun hS=>?_)
 clear hK K hb1 HD
 refine tK 2 (v:=?_) rfl ?_ hS ?_
 rotate_left
 ·intro W hSW
  have c:=field_n1 W
  go_simp
  all_goals with_reducible rfl
 go_simp
 refine rD 4 rfl (fun K hK=>?_)
 go_simp
 go_wp2_with (go_at_call 107; refine (nabove_any (.pointer none) s _ (gn _)).mono ?_; rintro e w2 ⟨rfl,hb2⟩)
 replace HB:=Hi (HB.out.trans (hb2.mono HB.out.size))
 refine hK.out _ _ (hS.kept hb2) (fun hS=>?_)
 clear hK K hb2
 refine tX 5 rfl hS ?_
 go_simp
 refine wpAnyH_done (by kernel_rfl) ?_ _
 go_simp
 have HE:=Hi HB.out
 clear hS HB
 go_wp2
 go_ret
 exact ⟨rfl,HE.out⟩
theorem dmarked_no (v:Value) (s:Qm.St) (w:World) (h:NoD w v):Calls Tryz.prog 59 #[v,snV s] w fun e w'=>e=.returned (.bool false)∧Below w.heap.size w w':=by
 have hb:=bel_alloc w (.cells (stA s) 35)
 have HN:=Hi (AgAt.new w (stA s) 35)
 have HD:=Hi (h.kept hb)
 have HB:=Hi hb
 clear h hb
 go_enter Tryz.func59,Tryz.ntmps59
 go_upto_region 1 with fail
 generalize w.alloc (.cells (stA s) 35)=w0 at *
 have hbd:=Below.drew (Below.refl w0.heap.size w0)
 replace HD:=Hi (HD.out.kept hbd)
 replace HN:=Hi (AgAt.kept HN.out hbd)
 replace HB:=Hi (HB.out.trans (hbd.mono HB.out.size))
 refine wp_region_held_drew (S:=fun W=>AgAt W w.heap.size (stA s)) (by kernel_rfl) HN.out (fun hS=>?_)
 clear hbd HN
 generalize w0.drew=wd at *
 refine tX 0 rfl hS ?_
 go_simp
 refine tK 3 (v:=snV s) rfl (fun W hSW=>exec_load_ag stT rfl rfl rfl hSW) hS ?_
 go_simp
 refine rD 1 rfl (fun K hK=>?_)
 go_simp
 go_wp2_with (go_at_call 115; refine (nown_any v _ HD.out).mono ?_; rintro e w1 ⟨rfl,hb1⟩)
 replace HB:=Hi (HB.out.trans (hb1.mono HB.out.size))
 refine hK.out _ _ (hS.kept hb1) (fun hS=>?_)
 clear hK K hb1 HD
 refine tK 2 (v:=?_) rfl ?_ hS ?_
 rotate_left
 ·intro W hSW
  have c:=field_n2 W
  go_simp
  all_goals with_reducible rfl
 go_simp
 refine rD 4 rfl (fun K hK=>?_)
 go_simp
 go_wp2_with (go_at_call 137; refine (marked_no (.pointer none) s _ (rn _)).mono ?_; rintro e w2 ⟨rfl,hb2⟩)
 replace HB:=Hi (HB.out.trans (hb2.mono HB.out.size))
 refine hK.out _ _ (hS.kept hb2) (fun hS=>?_)
 clear hK K hb2
 refine tX 5 rfl hS ?_
 go_simp
 refine wpAnyH_done (by kernel_rfl) ?_ _
 go_simp
 have HE:=Hi HB.out
 clear hS HB
 go_wp2
 go_ret
 exact ⟨rfl,HE.out⟩
theorem dreach_no (v:Value) (s:Qm.St) (m:Qm.St) (up:Bool) (w:World) (h:NoD w v):Calls Tryz.prog 62 #[v,snV s,snV m,.bool up] w fun e w'=>e=.returned (.bool false)∧Below w.heap.size w w':=by
 have hb:=bel_alloc2 w (.cells (stA s) 35) (.cells (stA m) 35)
 have HN:=Hi ((AgAt.new w (stA s) 35).kept (bel_alloc _ (.cells (stA m) 35)))
 have HX:=Hi (show AgAt ((w.alloc (.cells (stA s) 35)).alloc (.cells (stA m) 35)) (w.heap.size+1) (stA m) from by
  have:=AgAt.new (w.alloc (.cells (stA s) 35)) (stA m) 35
  rwa [World.size_alloc] at this)
 have HD:=Hi (h.kept hb)
 have HB:=Hi hb
 clear h hb
 go_enter Tryz.func62,Tryz.ntmps62
 go_upto_region 1 with fail
 generalize (w.alloc (.cells (stA s) 35)).alloc (.cells (stA m) 35)=w0 at *
 have hbd:=Below.drew (Below.refl w0.heap.size w0)
 replace HD:=Hi (HD.out.kept hbd)
 replace HN:=Hi (AgAt.kept HN.out hbd)
 replace HX:=Hi (AgAt.kept HX.out hbd)
 replace HB:=Hi (HB.out.trans (hbd.mono HB.out.size))
 refine wp_region_held_drew (S:=fun W=>AgAt W w.heap.size (stA s)∧AgAt W (w.heap.size+1) (stA m)) (by kernel_rfl) ⟨HN.out,HX.out⟩ (fun hS=>?_)
 clear hbd HN HX
 generalize w0.drew=wd at *
 refine tX 0 rfl hS ?_
 go_simp
 refine tK 3 (v:=snV s) rfl (fun W hSW=>exec_load_ag stT rfl rfl rfl hSW.1) hS ?_
 go_simp
 refine tK 4 (v:=snV m) rfl (fun W hSW=>exec_load_ag stT rfl rfl rfl hSW.2) hS ?_
 refine tX 5 rfl hS ?_
 go_simp
 refine rD 1 rfl (fun K hK=>?_)
 go_simp
 go_wp2_with (go_at_call 115; refine (nown_any v _ HD.out).mono ?_; rintro e w1 ⟨rfl,hb1⟩)
 replace HB:=Hi (HB.out.trans (hb1.mono HB.out.size))
 refine hK.out _ _ (⟨hS.1.kept hb1,hS.2.kept hb1⟩) (fun hS=>?_)
 clear hK K hb1 HD
 refine tK 2 (v:=?_) rfl ?_ hS ?_
 rotate_left
 ·intro W hSW
  have c:=field_n1 W
  go_simp
  all_goals with_reducible rfl
 go_simp
 refine rD 6 rfl (fun K hK=>?_)
 go_simp
 go_wp2_with (go_at_call 75; refine (nreach_any (.pointer none) s m up _ (gn _)).mono ?_; rintro e w2 ⟨rfl,hb2⟩)
 replace HB:=Hi (HB.out.trans (hb2.mono HB.out.size))
 refine hK.out _ _ (⟨hS.1.kept hb2,hS.2.kept hb2⟩) (fun hS=>?_)
 clear hK K hb2
 refine tX 7 rfl hS ?_
 go_simp
 refine wpAnyH_done (by kernel_rfl) ?_ _
 go_simp
 have HE:=Hi HB.out
 clear hS HB
 go_wp2
 go_ret
 exact ⟨rfl,HE.out⟩
theorem dspot_no (v:Value) (s:Qm.St) (w:World) (h:NoD w v):Calls Tryz.prog 51 #[v,snV s] w fun e w'=>e=.returned (.tuple #[.agg (spA zS),.bool false])∧Below w.heap.size w w':=by
 have hb:=bel_alloc2 w (.cells (stA s) 35) (.cells #[.int .i64 0,.int .i64 0,.string ⟨#[]⟩] 106)
 have HN:=Hi ((AgAt.new w (stA s) 35).kept (bel_alloc _ (.cells #[.int .i64 0,.int .i64 0,.string ⟨#[]⟩] 106)))
 have HX:=Hi (show AgAt ((w.alloc (.cells (stA s) 35)).alloc (.cells #[.int .i64 0,.int .i64 0,.string ⟨#[]⟩] 106)) (w.heap.size+1) #[.int .i64 0,.int .i64 0,.string ⟨#[]⟩] from by
  have:=AgAt.new (w.alloc (.cells (stA s) 35)) #[.int .i64 0,.int .i64 0,.string ⟨#[]⟩] 106
  rwa [World.size_alloc] at this)
 have HD:=Hi (h.kept hb)
 have HB:=Hi hb
 clear h hb
 go_enter Tryz.func51,Tryz.ntmps51
 go_upto_region 1 with fail
 generalize (w.alloc (.cells (stA s) 35)).alloc (.cells #[.int .i64 0,.int .i64 0,.string ⟨#[]⟩] 106)=w0 at *
 have hbd:=Below.drew (Below.refl w0.heap.size w0)
 replace HD:=Hi (HD.out.kept hbd)
 replace HN:=Hi (AgAt.kept HN.out hbd)
 replace HX:=Hi (AgAt.kept HX.out hbd)
 replace HB:=Hi (HB.out.trans (hbd.mono HB.out.size))
 refine wp_region_held_drew (S:=fun W=>AgAt W w.heap.size (stA s)) (by kernel_rfl) HN.out (fun hS=>?_)
 clear hbd HN
 generalize w0.drew=wd at *
 refine tX 0 rfl hS ?_
 go_simp
 refine tK 3 (v:=snV s) rfl (fun W hSW=>exec_load_ag stT rfl rfl rfl hSW) hS ?_
 go_simp
 refine rD 1 rfl (fun K hK=>?_)
 go_simp
 go_wp2_with (go_at_call 115; refine (nown_any v _ HD.out).mono ?_; rintro e w1 ⟨rfl,hb1⟩)
 replace HX:=Hi (AgAt.kept HX.out hb1)
 replace HB:=Hi (HB.out.trans (hb1.mono HB.out.size))
 refine hK.out _ _ (hS.kept hb1) (fun hS=>?_)
 clear hK K hb1 HD
 refine tK 2 (v:=?_) rfl ?_ hS ?_
 rotate_left
 ·intro W hSW
  have c:=field_n1 W
  go_simp
  all_goals with_reducible rfl
 go_simp
 refine rD 4 rfl (fun K hK=>?_)
 go_simp
 go_wp2_with (go_at_call 74; refine (nspot_any (.pointer none) s _ (gn _)).mono ?_; rintro e w2 ⟨rfl,hb2⟩)
 replace HX:=Hi (AgAt.kept HX.out hb2)
 replace HB:=Hi (HB.out.trans (hb2.mono HB.out.size))
 refine hK.out _ _ (hS.kept hb2) (fun hS=>?_)
 clear hK K hb2
 refine tX 5 rfl hS ?_
 refine tX 6 rfl hS ?_
 go_simp
 refine rD 7 rfl (fun K hK=>?_)
 refine step_of (by kernel_rfl) ?_
 refine wp_store_agG spT _ _ rfl _ rfl _ HX.out rfl rfl rfl (spA_one _) ?_
 intro w3 hv3 hk3 hs3 hb3
 have HE:=Hi (hb3 _ _ HB.out (by omega))
 refine hK.out _ _ (AgAt.block hS (hk3 _ (by omega))) (fun hS=>?_)
 clear hK K hk3 hs3 hb3 HX HB
 refine tX 8 rfl hS ?_
 go_simp
 refine wpAnyH_done (by kernel_rfl) ?_ _
 go_simp
 clear hS
 go_wp2
 refine bodyPost_ret (results_two spT _ rfl rfl hv3 rfl rfl) rfl ?_
 exact ⟨rfl,HE.out⟩
theorem dref_no (v:Value) (s:Qm.St) (w:World) (h:NoD w v):Calls Tryz.prog 52 #[v,snV s] w fun e w'=>e=.returned (.tuple #[.agg #[.int .i64 0,.int .i64 0],.bool false])∧Below w.heap.size w w':=by
 have hb:=bel_alloc2 w (.cells (stA s) 35) (.cells #[.int .i64 0,.int .i64 0] 35)
 have HN:=Hi ((AgAt.new w (stA s) 35).kept (bel_alloc _ (.cells #[.int .i64 0,.int .i64 0] 35)))
 have HX:=Hi (show AgAt ((w.alloc (.cells (stA s) 35)).alloc (.cells #[.int .i64 0,.int .i64 0] 35)) (w.heap.size+1) #[.int .i64 0,.int .i64 0] from by
  have:=AgAt.new (w.alloc (.cells (stA s) 35)) #[.int .i64 0,.int .i64 0] 35
  rwa [World.size_alloc] at this)
 have HD:=Hi (h.kept hb)
 have HB:=Hi hb
 clear h hb
 go_enter Tryz.func52,Tryz.ntmps52
 go_upto_region 1 with fail
 generalize (w.alloc (.cells (stA s) 35)).alloc (.cells #[.int .i64 0,.int .i64 0] 35)=w0 at *
 have hbd:=Below.drew (Below.refl w0.heap.size w0)
 replace HD:=Hi (HD.out.kept hbd)
 replace HN:=Hi (AgAt.kept HN.out hbd)
 replace HX:=Hi (AgAt.kept HX.out hbd)
 replace HB:=Hi (HB.out.trans (hbd.mono HB.out.size))
 refine wp_region_held_drew (S:=fun W=>AgAt W w.heap.size (stA s)) (by kernel_rfl) HN.out (fun hS=>?_)
 clear hbd HN
 generalize w0.drew=wd at *
 refine tX 0 rfl hS ?_
 go_simp
 refine tK 3 (v:=snV s) rfl (fun W hSW=>exec_load_ag stT rfl rfl rfl hSW) hS ?_
 go_simp
 refine rD 1 rfl (fun K hK=>?_)
 go_simp
 go_wp2_with (go_at_call 115; refine (nown_any v _ HD.out).mono ?_; rintro e w1 ⟨rfl,hb1⟩)
 replace HX:=Hi (AgAt.kept HX.out hb1)
 replace HB:=Hi (HB.out.trans (hb1.mono HB.out.size))
 refine hK.out _ _ (hS.kept hb1) (fun hS=>?_)
 clear hK K hb1 HD
 refine tK 2 (v:=?_) rfl ?_ hS ?_
 rotate_left
 ·intro W hSW
  have c:=field_n1 W
  go_simp
  all_goals with_reducible rfl
 go_simp
 refine rD 4 rfl (fun K hK=>?_)
 go_simp
 go_wp2_with (go_at_call 100; refine (nref_any (.pointer none) s _ (gn _)).mono ?_; rintro e w2 ⟨rfl,hb2⟩)
 replace HX:=Hi (AgAt.kept HX.out hb2)
 replace HB:=Hi (HB.out.trans (hb2.mono HB.out.size))
 refine hK.out _ _ (hS.kept hb2) (fun hS=>?_)
 clear hK K hb2
 refine tX 5 rfl hS ?_
 refine tX 6 rfl hS ?_
 go_simp
 refine rD 7 rfl (fun K hK=>?_)
 refine step_of (by kernel_rfl) ?_
 refine wp_store_agG stT _ _ rfl _ rfl _ HX.out rfl rfl rfl (stA_one _ _) ?_
 intro w3 hv3 hk3 hs3 hb3
 have HE:=Hi (hb3 _ _ HB.out (by omega))
 refine hK.out _ _ (AgAt.block hS (hk3 _ (by omega))) (fun hS=>?_)
 clear hK K hk3 hs3 hb3 HX HB
 refine tX 8 rfl hS ?_
 go_simp
 refine wpAnyH_done (by kernel_rfl) ?_ _
 go_simp
 clear hS
 go_wp2
 refine bodyPost_ret (results_two stT _ rfl rfl hv3 rfl rfl) rfl ?_
 exact ⟨rfl,HE.out⟩
theorem dover_no (v:Value) (s:Qm.St) (q:Option Addr) (l:List Qm.St) (cq:Nat) (pp:Int) (w:World) (h:NoD w v):Calls Tryz.prog 53 #[v,snV s,.slice q l.length cq,.int .i64 pp] w fun e w'=>e=.returned (.tuple #[.agg (vlA Pm.z0),.bool false])∧Below w.heap.size w w':=by
 have hb:=bel_alloc2 w (.cells (stA s) 35) (.cells #[.int .i64 0,.int .i64 0,.string ⟨#[]⟩] 38)
 have HN:=Hi ((AgAt.new w (stA s) 35).kept (bel_alloc _ (.cells #[.int .i64 0,.int .i64 0,.string ⟨#[]⟩] 38)))
 have HX:=Hi (show AgAt ((w.alloc (.cells (stA s) 35)).alloc (.cells #[.int .i64 0,.int .i64 0,.string ⟨#[]⟩] 38)) (w.heap.size+1) #[.int .i64 0,.int .i64 0,.string ⟨#[]⟩] from by
  have:=AgAt.new (w.alloc (.cells (stA s) 35)) #[.int .i64 0,.int .i64 0,.string ⟨#[]⟩] 38
  rwa [World.size_alloc] at this)
 have HD:=Hi (h.kept hb)
 have HB:=Hi hb
 clear h hb
 go_enter Tryz.func53,Tryz.ntmps53
 go_upto_region 1 with fail
 generalize (w.alloc (.cells (stA s) 35)).alloc (.cells #[.int .i64 0,.int .i64 0,.string ⟨#[]⟩] 38)=w0 at *
 have hbd:=Below.drew (Below.refl w0.heap.size w0)
 replace HD:=Hi (HD.out.kept hbd)
 replace HN:=Hi (AgAt.kept HN.out hbd)
 replace HX:=Hi (AgAt.kept HX.out hbd)
 replace HB:=Hi (HB.out.trans (hbd.mono HB.out.size))
 refine wp_region_held_drew (S:=fun W=>AgAt W w.heap.size (stA s)) (by kernel_rfl) HN.out (fun hS=>?_)
 clear hbd HN
 generalize w0.drew=wd at *
 refine tX 0 rfl hS ?_
 go_simp
 refine tK 3 (v:=snV s) rfl (fun W hSW=>exec_load_ag stT rfl rfl rfl hSW) hS ?_
 refine tX 4 rfl hS ?_
 refine tX 5 rfl hS ?_
 go_simp
 refine rD 1 rfl (fun K hK=>?_)
 go_simp
 go_wp2_with (go_at_call 115; refine (nown_any v _ HD.out).mono ?_; rintro e w1 ⟨rfl,hb1⟩)
 replace HX:=Hi (AgAt.kept HX.out hb1)
 replace HB:=Hi (HB.out.trans (hb1.mono HB.out.size))
 refine hK.out _ _ (hS.kept hb1) (fun hS=>?_)
 clear hK K hb1 HD
 refine tK 2 (v:=?_) rfl ?_ hS ?_
 rotate_left
 ·intro W hSW
  have c:=field_n2 W
  go_simp
  all_goals with_reducible rfl
 go_simp
 refine rD 6 rfl (fun K hK=>?_)
 go_simp
 go_wp2_with (go_at_call 135; refine (over_no (.pointer none) s q l cq pp _ (rn _)).mono ?_; rintro e w2 ⟨rfl,hb2⟩)
 replace HX:=Hi (AgAt.kept HX.out hb2)
 replace HB:=Hi (HB.out.trans (hb2.mono HB.out.size))
 refine hK.out _ _ (hS.kept hb2) (fun hS=>?_)
 clear hK K hb2
 refine tX 7 rfl hS ?_
 refine tX 8 rfl hS ?_
 go_simp
 refine rD 9 rfl (fun K hK=>?_)
 refine step_of (by kernel_rfl) ?_
 refine wp_store_agG vA _ _ rfl _ rfl _ HX.out rfl rfl rfl (vl_one _) ?_
 intro w3 hv3 hk3 hs3 hb3
 have HE:=Hi (hb3 _ _ HB.out (by omega))
 refine hK.out _ _ (AgAt.block hS (hk3 _ (by omega))) (fun hS=>?_)
 clear hK K hk3 hs3 hb3 HX HB
 refine tX 10 rfl hS ?_
 go_simp
 refine wpAnyH_done (by kernel_rfl) ?_ _
 go_simp
 clear hS
 go_wp2
 refine bodyPost_ret (results_two vA _ rfl rfl hv3 rfl rfl) rfl ?_
 exact ⟨rfl,HE.out⟩
theorem dvalue_no (v:Value) (s:Qm.St) (pp:Int) (w:World) (h:NoD w v):Calls Tryz.prog 54 #[v,snV s,.int .i64 pp] w fun e w'=>e=.returned (.agg (vlA Pm.z0))∧Below w.heap.size w w':=by
 have hb:=bel_alloc2 w (.cells (stA s) 35) (.cells #[.int .i64 0,.int .i64 0,.string ⟨#[]⟩] 38)
 have HN:=Hi ((AgAt.new w (stA s) 35).kept (bel_alloc _ (.cells #[.int .i64 0,.int .i64 0,.string ⟨#[]⟩] 38)))
 have HX:=Hi (show AgAt ((w.alloc (.cells (stA s) 35)).alloc (.cells #[.int .i64 0,.int .i64 0,.string ⟨#[]⟩] 38)) (w.heap.size+1) #[.int .i64 0,.int .i64 0,.string ⟨#[]⟩] from by
  have:=AgAt.new (w.alloc (.cells (stA s) 35)) #[.int .i64 0,.int .i64 0,.string ⟨#[]⟩] 38
  rwa [World.size_alloc] at this)
 have HD:=Hi (h.kept hb)
 have HB:=Hi hb
 clear h hb
 go_enter Tryz.func54,Tryz.ntmps54
 go_upto_region 1 with fail
 generalize (w.alloc (.cells (stA s) 35)).alloc (.cells #[.int .i64 0,.int .i64 0,.string ⟨#[]⟩] 38)=w0 at *
 have hbd:=Below.drew (Below.refl w0.heap.size w0)
 replace HD:=Hi (HD.out.kept hbd)
 replace HN:=Hi (AgAt.kept HN.out hbd)
 replace HX:=Hi (AgAt.kept HX.out hbd)
 replace HB:=Hi (HB.out.trans (hbd.mono HB.out.size))
 refine wp_region_held_drew (S:=fun W=>AgAt W w.heap.size (stA s)) (by kernel_rfl) HN.out (fun hS=>?_)
 clear hbd HN
 generalize w0.drew=wd at *
 refine tX 0 rfl hS ?_
 go_simp
 refine tK 3 (v:=snV s) rfl (fun W hSW=>exec_load_ag stT rfl rfl rfl hSW) hS ?_
 refine tX 4 rfl hS ?_
 go_simp
 refine rD 1 rfl (fun K hK=>?_)
 go_simp
 go_wp2_with (go_at_call 115; refine (nown_any v _ HD.out).mono ?_; rintro e w1 ⟨rfl,hb1⟩)
 replace HX:=Hi (AgAt.kept HX.out hb1)
 replace HB:=Hi (HB.out.trans (hb1.mono HB.out.size))
 refine hK.out _ _ (hS.kept hb1) (fun hS=>?_)
 clear hK K hb1 HD
 refine tK 2 (v:=?_) rfl ?_ hS ?_
 rotate_left
 ·intro W hSW
  have c:=field_n2 W
  go_simp
  all_goals with_reducible rfl
 go_simp
 refine rD 5 rfl (fun K hK=>?_)
 go_simp
 go_wp2_with (go_at_call 136; refine (value_no (.pointer none) s pp _ (rn _)).mono ?_; rintro e w2 ⟨rfl,hb2⟩)
 replace HX:=Hi (AgAt.kept HX.out hb2)
 replace HB:=Hi (HB.out.trans (hb2.mono HB.out.size))
 refine hK.out _ _ (hS.kept hb2) (fun hS=>?_)
 clear hK K hb2
 refine rD 6 rfl (fun K hK=>?_)
 refine step_of (by kernel_rfl) ?_
 refine wp_store_agG vA _ _ rfl _ rfl _ HX.out rfl rfl rfl (vl_one _) ?_
 intro w3 hv3 hk3 hs3 hb3
 have HE:=Hi (hb3 _ _ HB.out (by omega))
 refine hK.out _ _ (AgAt.block hS (hk3 _ (by omega))) (fun hS=>?_)
 clear hK K hk3 hs3 hb3 HX HB
 refine wpAnyH_done (by kernel_rfl) ?_ _
 go_simp
 clear hS
 go_wp2
 exact bodyPost_ret (results_ag vA _ rfl rfl hv3 rfl) rfl ⟨rfl,HE.out⟩
theorem dalive_no (v:Value) (s:Qm.St) (w:World) (h:NoD w v):Calls Tryz.prog 61 #[v,snV s] w fun e w'=>e=.returned (.bool false)∧Below w.heap.size w w':=by
 have hb:=bel_alloc w (.cells (stA s) 35)
 have HN:=Hi (AgAt.new w (stA s) 35)
 have HC:=Hi (dabove_no v s _ (h.kept hb))
 have HB:=Hi hb
 clear h hb
 go_enter Tryz.func61,Tryz.ntmps61
 go_wp2_with (refine wpList_load_ag stT (by kernel_rfl) _ rfl _ rfl (A:=stA s) rfl HN.out ?_)
 refine HC.out.mono ?_
 rintro e w1 ⟨rfl,hb1⟩
 have HE:=Hi (HB.out.trans (hb1.mono HB.out.size))
 clear HB hb1 HC HN
 go_wp2
 go_ret
 exact ⟨rfl,HE.out⟩
theorem dlocked_no (v:Value) (s:Qm.St) (w:World) (h:NoD w v):Calls Tryz.prog 60 #[v,snV s] w fun e w'=>e=.returned (.bool false)∧Below w.heap.size w w':=by
 have hb:=bel_alloc w (.cells (stA s) 35)
 have HN:=Hi (AgAt.new w (stA s) 35)
 have HO:=Hi (nown_any v _ (h.kept hb))
 have HB:=Hi hb
 clear h hb
 go_enter Tryz.func60,Tryz.ntmps60
 go_wp2_with fail
 refine HO.out.mono ?_
 rintro e w1 ⟨rfl,hb1⟩
 go_upto_region 2 with (refine wpList_store_newag paT rfl _ _ rfl rfl _ (A:=n3) rfl rfl rfl n3_one ?_; intro w2 hv2 hb2)
 have hbw:=HB.out.trans (hb1.mono HB.out.size)
 have y1:w2.cell? ⟨w1.heap.size,1,none⟩=some (.pointer none):=(AgAt.cell hv2 1).trans rfl
 replace HB:=Hi (hbw.trans (hb2.mono hbw.size))
 replace HN:=Hi ((HN.out.kept hb1).kept hb2)
 generalize w1.heap.size=b5 at *
 clear hv2 hb2 hb1 hbw HO
 go_wp2_with (refine wpList_load_ag stT (by kernel_rfl) _ rfl _ rfl (A:=stA s) rfl HN.out ?_)
 refine (nspot_any (.pointer none) s _ (gn _)).mono ?_
 rintro e w3 ⟨rfl,hb3⟩
 replace HB:=Hi (HB.out.trans (hb3.mono HB.out.size))
 clear hb3 HN y1
 go_upto_region 3 with (refine wpList_store_newag spT rfl _ _ rfl rfl _ (A:=spA zS) rfl rfl rfl (spA_one _) ?_; intro w4 hv4 hb4)
 have HE:=Hi (HB.out.trans (hb4.mono HB.out.size))
 clear hv4 hb4 HB
 go_wp2
 go_ret
 exact ⟨rfl,HE.out⟩
theorem exec_eql_n3 {c:Act} {o:Oper} {x y:Operand} {ty:TypeId} (ho:o.op=.binOp .eql 120 x y ty) {w:World} (hx:c.eval x=.agg n3) (hy:c.eval y=.agg n3):(execOp c.eval o).run Tryz.prog w=.ok (.value (.bool true)) w:=by
 have e1:∀ W,Sem.run Tryz.prog (Op.equalIn 9999 100 (Value.pointer none) (Value.pointer none)) W=.ok true W:=fun W=>by kernel_rfl
 have e2:∀ W,Sem.run Tryz.prog (Op.equalIn 9999 25 (Value.pointer none) (Value.pointer none)) W=.ok true W:=fun W=>by kernel_rfl
 have e3:∀ W,Sem.run Tryz.prog (Op.equalIn 9999 118 (Value.pointer none) (Value.pointer none)) W=.ok true W:=fun W=>by kernel_rfl
 unfold execOp
 simp only [ho,hx,hy]
 go_simp
theorem exec_build_n3 {o:Oper} {a:Act} {w:World} (ho:o.op=.build 120 #[]):(execOp a.eval o).run Tryz.prog w=.ok (.value (.agg n3)) w:=by
 unfold execOp
 simp only [ho,Sem.run_bind,Sem.run_pure,Result.andThen_ok,List.map_toArray,List.map_nil,run_build_n3]
theorem dclone_no (v:Value) (w:World) (h:NoD w v):Calls Tryz.prog 33 #[v] w fun e w'=>e=.returned (.pointer none)∧Below w.heap.size w w':=by
 have HO:=Hi (nown_any v w h)
 clear h
 go_enter Tryz.func33,Tryz.ntmps33
 go_wp2_with fail
 refine HO.out.mono ?_
 rintro e w1 ⟨rfl,hb1⟩
 go_upto_region 2 with (refine wpList_store_newag paT rfl _ _ rfl rfl _ (A:=n3) rfl rfl rfl n3_one ?_; intro w2 hv2 hb2)
 have HE:=Hi (hb1.trans (hb2.mono hb1.size))
 have HV:=Hi hv2
 clear hv2 hb2 hb1 HO
 go_wp2_with (first | (refine wpList_load_ag paT (by kernel_rfl) _ rfl _ rfl (A:=n3) rfl HV.out ?_) | (refine wpList_value (by kernel_rfl) (exec_build_n3 rfl) ?_) | (refine wpList_value (by kernel_rfl) (exec_eql_n3 rfl rfl rfl) ?_))
 go_ret
 exact ⟨rfl,HE.out⟩
theorem dapply_no (v:Value) (x:Bat) (p:Option Addr) (cc:Nat) (w:World) (h:NoD w v):Calls Tryz.prog 34 #[v,.agg (btA x p cc)] w fun e w'=>e=.returned (.tuple #[.int .i64 0,.int .i64 1])∧Below w.heap.size w w':=by
 have hb:=bel_alloc w (.cells (btA x p cc) 81)
 have HX:=Hi (AgAt.new w (btA x p cc) 81)
 have HO:=Hi (nown_any v _ (h.kept hb))
 have HB:=Hi hb
 clear h hb
 go_enter Tryz.func34,Tryz.ntmps34
 go_wp2_with fail
 refine HO.out.mono ?_
 rintro e w1 ⟨rfl,hb1⟩
 go_upto_region 2 with (refine wpList_store_newag paT rfl _ _ rfl rfl _ (A:=n3) rfl rfl rfl n3_one ?_; intro w2 hv2 hb2)
 have hbw:=HB.out.trans (hb1.mono HB.out.size)
 have y0:w2.cell? ⟨w1.heap.size,0,none⟩=some (.pointer none):=(AgAt.cell hv2 0).trans rfl
 replace HB:=Hi (hbw.trans (hb2.mono hbw.size))
 replace HX:=Hi ((AgAt.kept HX.out hb1).kept hb2)
 generalize w1.heap.size=b5 at *
 clear hv2 hb2 hb1 hbw HO
 go_wp2_with (refine wpList_load_ag btP (by kernel_rfl) _ rfl _ rfl (A:=btA x p cc) rfl HX.out ?_)
 refine (ladd_no (.pointer none) x p cc w2 (ln _)).mono ?_
 rintro e w3 ⟨rfl,hb3⟩
 have HE:=Hi (HB.out.trans (hb3.mono HB.out.size))
 unfold noB
 clear HB hb3 HX y0
 go_wp2
 go_loopw [22] (fun i wr=>i=.int .i64 0∧wr=w3) (fun i _=>0)
 case atStart=>exact ⟨rfl,rfl⟩
 case round =>
  obtain ⟨rfl,rfl⟩:=hrel
  go_wp2
  go_ret2
  exact ⟨rfl,HE.out⟩
theorem dsame_no (v u:Value) (a0 a1 a2:Value) (h1:(#[a0,a1,a2]:Array Value).all (·.oneCell')=true) (w:World) (h:NoD w v) (hu:∀ W,Below w.heap.size w W→Calls Tryz.prog 115 #[u] W fun e w'=>e=.returned (.agg #[a0,a1,a2])∧Below W.heap.size W w'):Calls Tryz.prog 38 #[v,u] w fun e w'=>e=.returned (.bool false)∧Below w.heap.size w w':=by
 have HO:=Hi (nown_any v w h)
 have HU:=Hi hu
 have H1:=Hi h1
 clear h hu h1
 go_enter Tryz.func38,Tryz.ntmps38
 go_wp2_with fail
 refine HO.out.mono ?_
 rintro e w1 ⟨rfl,hb1⟩
 have HU1:=Hi (HU.out w1 hb1)
 have HB:=Hi hb1
 clear hb1 HO HU
 go_wp2_with fail
 refine HU1.out.mono ?_
 rintro e w2 ⟨rfl,hb2⟩
 replace HB:=Hi (HB.out.trans (hb2.mono HB.out.size))
 have hal:=bel_alloc2 w2 (.cells n3 120) (.cells n3 120)
 have HX1:=Hi ((AgAt.new w2 n3 120).kept (bel_alloc _ (.cells n3 120)))
 have HX2:=Hi (show AgAt ((w2.alloc (.cells n3 120)).alloc (.cells n3 120)) (w2.heap.size+1) n3 from by
  have:=AgAt.new (w2.alloc (.cells n3 120)) n3 120
  rwa [World.size_alloc] at this)
 have HSZ:=Hi HB.out.size
 replace HB:=Hi (HB.out.trans (hal.mono HB.out.size))
 clear hal hb2 HU1
 go_upto_region 2 with (first | (refine wpList_store_ag paT rfl _ _ rfl w2.heap.size rfl n3 HX1.out (A:=n3) rfl rfl rfl n3_one ?_; intro w3 hv3 hk3 hs3 hb3; have hx3:=HX2.out.block (hk3 _ (by omega)); have hbb3:=hb3 _ _ HB.out HSZ.out) | (refine wpList_store_ag paT rfl _ _ rfl (w2.heap.size+1) rfl n3 hx3 (A:=#[a0,a1,a2]) rfl rfl rfl H1.out ?_; intro w4 hv4 hk4 hs4 hb4))
 have y1:w4.cell? ⟨w2.heap.size,1,none⟩=some (.pointer none):=(AgAt.cell (hv3.block (hk4 _ (by omega))) 1).trans rfl
 have y2:w4.cell? ⟨w2.heap.size+1,1,none⟩=some a1:=(AgAt.cell hv4 1).trans rfl
 have HE:=Hi (hb4 _ _ hbb3 (by have:=HSZ.out; omega))
 clear hv3 hk3 hs3 hb3 hx3 hbb3 hv4 hk4 hs4 hb4 HX1 HX2 HB
 go_wp2_with fail
 refine (nsame_any (.pointer none) a1 w4 (gn _)).mono ?_
 rintro e w5 ⟨rfl,hb5⟩
 replace HE:=Hi (HE.out.trans (hb5.mono HE.out.size))
 clear hb5 y1 y2
 go_wp2
 go_ret
 exact ⟨rfl,HE.out⟩
end Go.Proofs.YthfhefdfehlbkaaGreat
