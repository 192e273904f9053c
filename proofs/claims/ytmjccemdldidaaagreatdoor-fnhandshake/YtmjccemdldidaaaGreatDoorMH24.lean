import Derived.Test.YtmjccemdldidaaaGreatDoorMH23
import Derived.Test.YtmjccemdldidaaaGreatDoorMH19
namespace Go.Proofs.YtmjccemdldidaaaGreatDoor
open Go.RowKit
open Go.Proofs.Tryz
open Go renaming heap_alloc_new → hAN, heap_alloc_old → hAO, wpList_load_row → wpLr, wpQuiet_nil → wqN
open Go.World renaming block_lt_of_cell? → wJ, size_alloc → wU
open List renaming drop_succ_cons → dJ, drop_zero → dY, length_replicate → rJ, replicate → rQ, take_succ_cons → tU, take_zero → tJ
open Nat renaming le_refl → nQ, lt_of_lt_of_le → nJ
set_option linter.unusedVariables false
set_option maxHeartbeats 4000000
set_option maxRecDepth 10000
theorem aj0 (x:Int) (w:World) (h:gG x):Calls prog 135 #[.int .u32 x,.int .i64 16] w fun e w'=>e=.returned (.int .u32 (rl 16 x))∧w'=w:=by
 have hr:=(ajW x h).2
 have hm:bits .and .u64 16 31=16:=by kernel_rfl
 obtain⟨h0,h1⟩:=h
 go_enter func135,ntmps135
 go_wp2
 go_ret
 exact⟨rfl,rfl⟩
theorem ajZ (x:Int) (w:World) (h:gG x):Calls prog 135 #[.int .u32 x,.int .i64 12] w fun e w'=>e=.returned (.int .u32 (rl 12 x))∧w'=w:=by
 have hr:=(alF x h).2
 have hm:bits .and .u64 12 31=12:=by kernel_rfl
 obtain⟨h0,h1⟩:=h
 go_enter func135,ntmps135
 go_wp2
 go_ret
 exact⟨rfl,rfl⟩
theorem alI (x:Int) (w:World) (h:gG x):Calls prog 135 #[.int .u32 x,.int .i64 8] w fun e w'=>e=.returned (.int .u32 (rl 8 x))∧w'=w:=by
 have hr:=(rl8 x h).2
 have hm:bits .and .u64 8 31=8:=by kernel_rfl
 obtain⟨h0,h1⟩:=h
 go_enter func135,ntmps135
 go_wp2
 go_ret
 exact⟨rfl,rfl⟩
theorem alH (x:Int) (w:World) (h:gG x):Calls prog 135 #[.int .u32 x,.int .i64 7] w fun e w'=>e=.returned (.int .u32 (rl 7 x))∧w'=w:=by
 have hr:=(rl7 x h).2
 have hm:bits .and .u64 7 31=7:=by kernel_rfl
 obtain⟨h0,h1⟩:=h
 go_enter func135,ntmps135
 go_wp2
 go_ret
 exact⟨rfl,rfl⟩
theorem RT (a b c d:Int) (w:World) (ha:gG a) (hb:gG b) (hc:gG c) (hd:gG d):
 Calls prog 136 #[.int .u32 a,.int .u32 b,.int .u32 c,.int .u32 d] w fun e w'=>e=.returned (.tuple #[.int .u32 (qA a b c d),.int .u32 (qB a b c d),.int .u32 (qC a b c d),.int .u32 (qD a b c d)])∧w'=w:=by
 go_enter func136,ntmps136
 go_wp2_with fail
 refine(aj0 _ _ (iY _ _)).mono ?_
 rintro e w1 ⟨rfl,rfl⟩
 go_wp2_with fail
 refine(ajZ _ _ (iY _ _)).mono ?_
 rintro e w1 ⟨rfl,rfl⟩
 go_wp2_with fail
 refine(alI _ _ (iY _ _)).mono ?_
 rintro e w1 ⟨rfl,rfl⟩
 go_wp2_with fail
 refine(alH _ _ (iY _ _)).mono ?_
 rintro e w1 ⟨rfl,rfl⟩
 go_wp2
 refine bodyPost_ret (v:=.tuple #[.int .u32 _,.int .u32 _,.int .u32 _,.int .u32 _]) (by simp[results,results136,go_sem,qA,qB,qC,qD,ad]) rfl ⟨rfl,rfl⟩
theorem I7:prog.follows .mixedOrders=true:=by kernel_rfl
theorem AW:(prog.info? 177).map (·.size)=some 16:=by kernel_rfl
theorem jJ {W W0:World} {g p:Nat} {v:Value} (h:∃cs,W.drew=W0.drew.setRow g cs):∃cs,(W.setCell ⟨g,p,none⟩ v).drew=W0.drew.setRow g cs:=by
 obtain⟨cs,h⟩:=h
 refine⟨cs.setIfInBounds p v,?_⟩
 rw[←aK,←h]
 rfl
def gU (w:World):Prop:=∀i,i<8→w.cell? ⟨2,i*4,none⟩=some (.int .u8 (q0 i))∧w.cell? ⟨2,i*4+1,none⟩=some (.int .u8 (q1 i))∧w.cell? ⟨2,i*4+2,none⟩=some (.int .u8 (q2 i))∧w.cell? ⟨2,i*4+3,none⟩=some (.int .u8 (q3 i))
theorem gU.later {B:Nat} {w w':World} (h:gU w) (hb:Below B w w') (hB:w.heap.size≤B):gU w':=by
 intro i hi
 obtain⟨t0,t1,t2,t3⟩:=h i hi
 have l0:=wJ _ _ t0
 exact⟨(hb.cell (p:=⟨2,i*4,none⟩) (nJ l0 hB)).trans t0,(hb.cell (p:=⟨2,i*4+1,none⟩) (nJ l0 hB)).trans t1,(hb.cell (p:=⟨2,i*4+2,none⟩) (nJ l0 hB)).trans t2,(hb.cell (p:=⟨2,i*4+3,none⟩) (nJ l0 hB)).trans t3⟩
theorem J5 (l:LI) (w:World) (hl:l.length=16) (h:bJ l) (ht:gU w):
 Calls prog 128 #[.agg (Iv .u32 l)] w fun e w'=>e=.returned (.agg (Iv .u32 (bK l 10)))∧Below w.heap.size w w':=by
 go_enter func128,ntmps128
 go_wp2
 go_loopw [5] (fun r wr=>∃k:Nat,k≤10∧r=.int .i64 k∧wr.heap[w.heap.size]? =some (.cells (Iv .u32 (bK l k)) 177)∧wr.heap[w.heap.size+1]? =some (.cells (Iv .u32 (rQ 16 0)) 177)∧Below w.heap.size w wr) (fun r _=>10 - (intOf r).toNat)
 case atStart=>
  refine⟨0,by omega,rfl,?_,?_,?_⟩
  ·simp only[cI,wU];simp[bK]
  ·simp only[cI,wU];simp;rfl
  ·exact((Below.refl _ _).alloc (by simp) _).alloc (by simp) _
 case round=>
  obtain⟨k,hk,rfl,hg,hg1,hbel⟩:=hrel
  by_cases hlt:k<10
  ·obtain⟨WX,rfl⟩:∃X,X=wr:=⟨_,rfl⟩
   go_wp2
   have hdec:decide ((k:Int)<10)=true:=by simp;omega
   simp only[hdec]
   clear hdec
   go_loopw [7] (fun r wr=>∃j:Nat,j≤8∧r=.int .i64 j∧wr.heap[w.heap.size]? =some (.cells (Iv .u32 (wD (bK l k) j)) 177)∧wr.heap[w.heap.size+1]? =some (.cells (Iv .u32 (rQ 16 0)) 177)∧Below w.heap.size w wr) (fun r _=>8 - (intOf r).toNat)
   case atStart=>exact⟨0,by omega,rfl,hg,hg1,hbel⟩
   case round=>
    obtain⟨j,hj,rfl,hgj,hg1j,hbelj⟩:=hrel
    clear hg hg1 hbel
    by_cases hltj:j<8
    ·obtain⟨t0,t1,t2,t3⟩:=ht j hltj
     have c0:=(hbelj.cell (p:=⟨2,j*4,none⟩) (wJ _ _ t0)).trans t0
     have c1:=(hbelj.cell (p:=⟨2,j*4+1,none⟩) (wJ _ _ t1)).trans t1
     have c2:=(hbelj.cell (p:=⟨2,j*4+2,none⟩) (wJ _ _ t2)).trans t2
     have c3:=(hbelj.cell (p:=⟨2,j*4+3,none⟩) (wJ _ _ t3)).trans t3
     obtain⟨l0,l1,l2,l3⟩:=afF j hltj
     have HL:Hid (wD (bK l k) (j+1)=jZ (wD (bK l k) j) (q0 j) (q1 j) (q2 j) (q3 j)):=rfl
     have hLl:(wD (bK l k) j).length=16:=by rw[sK,gP,hl]
     have hLa:bJ (wD (bK l k) j):=GH (rF h k) j
     have hsz:w.heap.size+1<wr.heap.size:=(Array.getElem?_eq_some_iff.1 hg1j).1
     generalize wD (bK l k) j=L at*
     have w0:=hLa (q0 j)
     have w1:=hLa (q1 j)
     have w2:=hLa (q2 j)
     have w3:=hLa (q3 j)
     have r0:wr.cell? ⟨w.heap.size,q0 j,none⟩=some (.int .u32 (L.getD (q0 j) 0)):=by rw[cell_of_row _ _ _ _ _ _ hgj,dG _ _ _ (by omega)];simp[show q0 j<L.length by omega]
     have r1:wr.cell? ⟨w.heap.size,q1 j,none⟩=some (.int .u32 (L.getD (q1 j) 0)):=by rw[cell_of_row _ _ _ _ _ _ hgj,dG _ _ _ (by omega)];simp[show q1 j<L.length by omega]
     have r2:wr.cell? ⟨w.heap.size,q2 j,none⟩=some (.int .u32 (L.getD (q2 j) 0)):=by rw[cell_of_row _ _ _ _ _ _ hgj,dG _ _ _ (by omega)];simp[show q2 j<L.length by omega]
     have r3:wr.cell? ⟨w.heap.size,q3 j,none⟩=some (.int .u32 (L.getD (q3 j) 0)):=by rw[cell_of_row _ _ _ _ _ _ hgj,dG _ _ _ (by omega)];simp[show q3 j<L.length by omega]
     have HM:Hid (jZ L (q0 j) (q1 j) (q2 j) (q3 j)=(((L.set (q0 j) (qA (L.getD (q0 j) 0) (L.getD (q1 j) 0) (L.getD (q2 j) 0) (L.getD (q3 j) 0))).set (q1 j) (qB (L.getD (q0 j) 0) (L.getD (q1 j) 0) (L.getD (q2 j) 0) (L.getD (q3 j) 0))).set (q2 j) (qC (L.getD (q0 j) 0) (L.getD (q1 j) 0) (L.getD (q2 j) 0) (L.getD (q3 j) 0))).set (q3 j) (qD (L.getD (q0 j) 0) (L.getD (q1 j) 0) (L.getD (q2 j) 0) (L.getD (q3 j) 0))):=rfl
     obtain⟨b0,b1,b1',b2,b2',b3,b3'⟩:=afE j hltj
     have n01:¬q0 j=q1 j:=by omega
     have n02:¬q0 j=q2 j:=by omega
     have n03:¬q0 j=q3 j:=by omega
     have n12:¬q1 j=q2 j:=by omega
     have n13:¬q1 j=q3 j:=by omega
     have n23:¬q2 j=q3 j:=by omega
     have m01:¬q1 j=q0 j:=by omega
     have m02:¬q2 j=q0 j:=by omega
     have m03:¬q3 j=q0 j:=by omega
     have m12:¬q2 j=q1 j:=by omega
     have m13:¬q3 j=q1 j:=by omega
     have m23:¬q3 j=q2 j:=by omega
     have f0:wr.frozen? ⟨w.heap.size,q0 j,none⟩=false:=frozen_of_row _ _ _ _ _ hgj
     have f1:wr.frozen? ⟨w.heap.size,q1 j,none⟩=false:=frozen_of_row _ _ _ _ _ hgj
     have f2:wr.frozen? ⟨w.heap.size,q2 j,none⟩=false:=frozen_of_row _ _ _ _ _ hgj
     have f3:wr.frozen? ⟨w.heap.size,q3 j,none⟩=false:=frozen_of_row _ _ _ _ _ hgj
     clear b0 b1 b1' b2 b2' b3 b3'
     have e0:Hid ((Iv .u32 L)[q0 j]? =some (.int .u32 (L.getD (q0 j) 0))):=by show _=_;rw[dG _ _ _ (by omega)];simp[show q0 j<L.length by omega]
     have e1:Hid ((Iv .u32 L)[q1 j]? =some (.int .u32 (L.getD (q1 j) 0))):=by show _=_;rw[dG _ _ _ (by omega)];simp[show q1 j<L.length by omega]
     have e2:Hid ((Iv .u32 L)[q2 j]? =some (.int .u32 (L.getD (q2 j) 0))):=by show _=_;rw[dG _ _ _ (by omega)];simp[show q2 j<L.length by omega]
     have e3:Hid ((Iv .u32 L)[q3 j]? =some (.int .u32 (L.getD (q3 j) 0))):=by show _=_;rw[dG _ _ _ (by omega)];simp[show q3 j<L.length by omega]
     generalize q0 j=p0 at*
     generalize q1 j=p1 at*
     generalize q2 j=p2 at*
     generalize q3 j=p3 at*
     generalize L.getD p0 0=x0 at*
     generalize L.getD p1 0=x1 at*
     generalize L.getD p2 0=x2 at*
     generalize L.getD p3 0=x3 at*
     clear t0 t1 t2 t3 hLa ht
     have hne:w.heap.size<wr.heap.size:=by omega
     have hT:wr.heap[w.heap.size+1]? =some (.cells (Iv .u32 (rQ 16 0)) 177):=hg1j
     go_wp2
     have pc0:(wr.alloc (.cells #[.int .u8 p0,.int .u8 p1,.int .u8 p2,.int .u8 p3] 212)).cell? ⟨wr.heap.size,0,none⟩=some (.int .u8 p0):=by simp
     have pc1:(wr.alloc (.cells #[.int .u8 p0,.int .u8 p1,.int .u8 p2,.int .u8 p3] 212)).cell? ⟨wr.heap.size,1,none⟩=some (.int .u8 p1):=by simp
     have pc2:(wr.alloc (.cells #[.int .u8 p0,.int .u8 p1,.int .u8 p2,.int .u8 p3] 212)).cell? ⟨wr.heap.size,2,none⟩=some (.int .u8 p2):=by simp
     have pc3:(wr.alloc (.cells #[.int .u8 p0,.int .u8 p1,.int .u8 p2,.int .u8 p3] 212)).cell? ⟨wr.heap.size,3,none⟩=some (.int .u8 p3):=by simp
     have hgW:(wr.alloc (.cells #[.int .u8 p0,.int .u8 p1,.int .u8 p2,.int .u8 p3] 212)).heap[w.heap.size]? =some (.cells (Iv .u32 L) 177):=by rw[hAO _ _ hne];exact hgj
     have hgT:(wr.alloc (.cells #[.int .u8 p0,.int .u8 p1,.int .u8 p2,.int .u8 p3] 212)).heap[w.heap.size+1]? =some (.cells (Iv .u32 (rQ 16 0)) 177):=by rw[hAO _ _ hsz];exact hT
     have hbW:Below w.heap.size w (wr.alloc (.cells #[.int .u8 p0,.int .u8 p1,.int .u8 p2,.int .u8 p3] 212)):=hbelj.alloc hbelj.size _
     clear r0 r1 r2 r3 f0 f1 f2 f3 hgj hg1j hbelj hT c0 c1 c2 c3
     generalize wr.alloc (.cells #[.int .u8 p0,.int .u8 p1,.int .u8 p2,.int .u8 p3] 212)=W0 at*
     generalize wr.heap.size=pb at*
     have r0:W0.cell? ⟨w.heap.size,p0,none⟩=some (.int .u32 x0):=by rw[cell_of_row _ _ _ _ _ _ hgW];exact e0.out
     have r1:W0.cell? ⟨w.heap.size,p1,none⟩=some (.int .u32 x1):=by rw[cell_of_row _ _ _ _ _ _ hgW];exact e1.out
     have r2:W0.cell? ⟨w.heap.size,p2,none⟩=some (.int .u32 x2):=by rw[cell_of_row _ _ _ _ _ _ hgW];exact e2.out
     have r3:W0.cell? ⟨w.heap.size,p3,none⟩=some (.int .u32 x3):=by rw[cell_of_row _ _ _ _ _ _ hgW];exact e3.out
     have f0:W0.frozen? ⟨w.heap.size,p0,none⟩=false:=frozen_of_row _ _ _ _ _ hgW
     have f1:W0.frozen? ⟨w.heap.size,p1,none⟩=false:=frozen_of_row _ _ _ _ _ hgW
     have f2:W0.frozen? ⟨w.heap.size,p2,none⟩=false:=frozen_of_row _ _ _ _ _ hgW
     have f3:W0.frozen? ⟨w.heap.size,p3,none⟩=false:=frozen_of_row _ _ _ _ _ hgW
     have S0:Hid (∃cs,W0.drew=W0.drew.setRow w.heap.size cs):=⟨_,(iE W0.drew w.heap.size (Iv .u32 L) 177 (0,0) hgW).symm⟩
     have pq0:∀cs,(W0.drew.setRow w.heap.size cs).cell? ⟨pb,0,none⟩=some (.int .u8 p0):=fun cs=>by rw[bB _ _ _ _ (by show pb≠_;omega)];exact pc0
     have pq1:∀cs,(W0.drew.setRow w.heap.size cs).cell? ⟨pb,1,none⟩=some (.int .u8 p1):=fun cs=>by rw[bB _ _ _ _ (by show pb≠_;omega)];exact pc1
     have pq2:∀cs,(W0.drew.setRow w.heap.size cs).cell? ⟨pb,2,none⟩=some (.int .u8 p2):=fun cs=>by rw[bB _ _ _ _ (by show pb≠_;omega)];exact pc2
     have pq3:∀cs,(W0.drew.setRow w.heap.size cs).cell? ⟨pb,3,none⟩=some (.int .u8 p3):=fun cs=>by rw[bB _ _ _ _ (by show pb≠_;omega)];exact pc3
     refine wRl 31 (fun w'=>∃cs,w'=W0.drew.setRow w.heap.size cs)
      [(.held,[0,1,2,3,4,5,6,7]),(.exact,[8,9,10,11,12,13,14,15,16,17,18,19,20,21,22,23]),(.only,[24]),(.held,[25,26,27,28,29,30]),(.tail,[31]),(.held,[32]),(.tail,[33]),(.held,[34]),(.tail,[35]),(.held,[36]),(.tail,[37])] I7 (by kernel_rfl)
      S0.out ?_
     simp only[iX,oS]
     repeat(go_big_quiet_step (fail))
     refine wqN ?_
     repeat(go_big_quiet_step (fail))
     refine wqN ?_
     go_wp2_with fail
     refine(RT _ _ _ _ _ w0 w1 w2 w3).mono ?_
     rintro e W1 ⟨rfl,rfl⟩
     go_wp2_with fail
     refine⟨rfl,?_⟩
     repeat(go_big_quiet_step (fail))
     refine wqN ?_
     go_wp2_with fail
     refine⟨jJ S0.out,?_⟩
     repeat(go_big_quiet_step (fail))
     refine wqN ?_
     go_wp2_with fail
     refine⟨jJ (jJ S0.out),?_⟩
     repeat(go_big_quiet_step (fail))
     refine wqN ?_
     go_wp2_with fail
     refine⟨jJ (jJ (jJ S0.out)),?_⟩
     repeat(go_big_quiet_step (fail))
     refine wqN ?_
     go_wp2_with fail
     refine⟨jJ (jJ (jJ (jJ S0.out))),dV ?_⟩
     go_wp2
     go_roundw
     case rel=>
      have hw1:=setCell_eq_setRow W0 w.heap.size p0 (Iv .u32 L) 177 (0,0) (.int .u32 (qA x0 x1 x2 x3)) hgW
      refine⟨j+1,by omega,by go_num,?_,?_,?_⟩
      ·rw[HL.out,HM.out,hw1,aK,aK,aK,bZ,bZ,bZ,bZ]
       exact setRow_heap _ _ _ _ _ _ hgW
      ·rw[hw1,aK,aK,aK]
       exact(cG _ _ _ _ (by omega)).trans hgT
      ·rw[hw1,aK,aK,aK]
       exact bDr (aO hbW _ (nQ _) _) 1
     case measure=>simp[intOf];omega
    ·obtain rfl:j=8:=by omega
     go_wp2
     go_roundw
     case rel=>exact⟨k+1,by omega,by go_num,hgj,hg1j,hbelj⟩
     case measure=>simp[intOf];omega
  ·obtain rfl:k=10:=by omega
   have hL:(bK l 10).length=16:=by rw[gP,hl]
   go_wp2_with(first|refine wpLr rfl 177 _ rfl _ rfl _ _ _ _ hg underlying177 rfl (by rw[aD,hL];exact AW) ?_ |refine wpList_store_row rfl 177 _ _ rfl _ (Iv .u32 (bK l 10)) rfl rfl _ _ hg1 (by rw[aD,hL];exact AW) (by simp[aD,hL]) (aG _ _) ?_)
   refine pW (cs:=Iv .u32 (bK l 10)) results128 ?_ (setRow_heap _ _ _ _ _ _ hg1) underlying177 (by rw[aD,hL];exact AW) ?_
   ·rfl
   ·exact⟨rfl,aO hbel _ (by omega) _⟩
theorem NV (key rest:LI) (w:World) (hk:key.length=32) (hr:rest.length=16) (hkb:aC key) (hrb:aC rest):
 Calls prog 127 #[.agg (Iv .u8 key),.agg (Iv .u8 rest)] w fun e w'=>e=.returned (.agg (Iv .u32 (jM key rest)))∧Below w.heap.size w w':=by
 go_enter func127,ntmps127
 go_wp2_with fail
 obtain⟨W,hW,h0,h1,h2,h3,hs,hb⟩:=sQ w (.cells (Iv .u8 key) 25) (.cells (Iv .u8 rest) 35) (.cells (Iv .u32 (rQ 16 0)) 177) (.cells (Iv .u32 mN) 177)
 have hW':=hW
 simp only[Iv,mN,rQ,List.map_cons,List.map_nil]at hW'
 simp only[Iv,hW']
 clear hW hW'
 have H0:aE W w.heap.size .u8 key 25:=h0
 have H1:aE W (w.heap.size+1) .u8 rest 35:=h1
 have H2:aE W (w.heap.size+1+1) .u32 (rQ 16 0) 177:=h2
 have H3:aE W (w.heap.size+1+1+1) .u32 mN 177:=h3
 clear h0 h1 h2 h3
 refine wRh 2 I7 (by kernel_rfl) ?_
 simp only[tU,tJ,dJ,dY]
 repeat(go_big_quiet_step (fail))
 refine wqN ?_
 go_wp2_with fail
 refine(jD 32 (w.heap.size+1+1+1) 4 8 12 177 mN w.heap.size 0 32 key W.drew hk H3 (by decide) (by decide) (by omega) hkb (by decide) (by decide) (by intro i hi;rw[Nat.zero_add];exact H0.cell i (by omega)) (by decide) (by decide)).mono ?_
 rintro e w1 ⟨rfl,d,hw1⟩
 have K1:aE w1 (w.heap.size+1) .u8 rest 35:=by rw[hw1];exact aE.far (w:=W.drew) H1 _ _ (by omega) d
 have K2:aE w1 (w.heap.size+1+1) .u32 (rQ 16 0) 177:=by rw[hw1];exact aE.far (w:=W.drew) H2 _ _ (by omega) d
 have K3:aE w1 (w.heap.size+1+1+1) .u32 (pF9 mN 4 (aF key) 8) 177:=by rw[hw1];exact aE.put (w:=W.drew) H3 _ d
 have hb1:Below w.heap.size w w1:=by rw[hw1];exact bDr (aO (bDr hb 1) _ (by omega) _) d
 clear hw1 H0 H1 H2 H3 hb
 go_wp2_with fail
 refine wRh 2 I7 (by kernel_rfl) ?_
 simp only[tU,tJ,dJ,dY]
 repeat(go_big_quiet_step (fail))
 refine wqN ?_
 go_wp2_with fail
 refine(jD 16 (w.heap.size+1+1+1) 12 4 4 177 (pF9 mN 4 (aF key) 8) (w.heap.size+1) 0 16 rest w1.drew hr K3 (by rw[aS _ _ _ _ (by decide)];decide) (by decide) (by omega) hrb (by decide) (by decide) (by intro i hi;rw[Nat.zero_add];exact K1.cell i (by omega)) (by decide) (by decide)).mono ?_
 rintro e w2 ⟨rfl,d2,hw2⟩
 have L2:aE w2 (w.heap.size+1+1) .u32 (rQ 16 0) 177:=by rw[hw2];exact aE.far (w:=w1.drew) K2 _ _ (by omega) d2
 have L3:aE w2 (w.heap.size+1+1+1) .u32 (jM key rest) 177:=by rw[hw2];exact aE.put (w:=w1.drew) K3 _ d2
 have hb2:Below w.heap.size w w2:=by rw[hw2];exact bDr (aO (bDr hb1 1) _ (by omega) _) d2
 clear hw2 K1 K2 K3 hb1
 have hi:(prog.info? 177).map (·.size)=some (Iv .u32 (jM key rest)).size:=by rw[aD];exact AW
 go_wp2_with(first|refine wpLr rfl 177 _ rfl _ rfl _ _ _ _ L3 underlying177 rfl hi ?_ |refine wpList_store_row rfl 177 _ _ rfl _ (Iv .u32 (jM key rest)) rfl rfl _ _ L2 hi (by rw[aD,aD];rfl) (aG _ _) ?_)
 refine pW (cs:=Iv .u32 (jM key rest)) results127 ?_ (setRow_heap _ _ _ _ _ _ L2) underlying177 hi ?_
 ·rfl
 ·exact⟨rfl,aO hb2 _ (by omega) _⟩
def jI (first eP:LI) (i:Nat):Int:=(eP.getD (i / 4) 0+first.getD (i / 4) 0)%4294967296 / 256^(i%4)%256
def iQ (first eP:LI):LI:=pF9 (rQ 64 0) 0 (jI first eP) 64
def PF (x:Int):LI:=(List.range 4).map (fun i=>x / 256^i%256)
theorem aeP:(prog.info? 25).map (·.size)=some 32:=by kernel_rfl
theorem aeO:(prog.info? 35).map (·.size)=some 16:=by kernel_rfl
theorem XD:(prog.info? 149).map (·.size)=some 64:=by kernel_rfl
theorem DC (x:Int):aC (PF x):=by
 intro i
 match i with
 | 0=>simp only[PF];simp;omega
 | 1=>simp only[PF];simp;omega
 | 2=>simp only[PF];simp;omega
 | 3=>simp only[PF];simp;omega
 | i+4=>simp[PF]
def gN (counter:Int) (nonce:LI):LI:=PF counter++nonce
theorem NU (key nonce:LI) (counter:Int) (w:World) (hk:key.length=32) (hr:nonce.length=12) (hkb:aC key) (hrb:aC nonce) (hc0:0≤counter) (hc1:counter<4294967296) (ht:gU w):
 Calls prog 117 #[.agg (Iv .u8 key),.int .u32 counter,.agg (Iv .u8 nonce)] w fun e w'=>e=.returned (.agg (Iv .u8 (iQ (jM key (gN counter nonce)) (bK (jM key (gN counter nonce)) 10))))∧Below w.heap.size w w':=by
 go_enter func117,ntmps117
 go_wp2_with fail
 obtain⟨W,hW,h0,h1,h2,h3,hs,hb⟩:=sQ w (.cells (Iv .u8 key) 25) (.cells (Iv .u8 nonce) 30) (.cells (Iv .u8 (rQ 64 0)) 149) (.cells (Iv .u8 (rQ 16 0)) 35)
 have hW':=hW
 simp only[Iv,rQ,List.map_cons,List.map_nil]at hW'
 simp only[Iv,hW']
 clear hW hW'
 have H0:aE W w.heap.size .u8 key 25:=h0
 have H1:aE W (w.heap.size+1) .u8 nonce 30:=h1
 have H2:aE W (w.heap.size+1+1) .u8 (rQ 64 0) 149:=h2
 have H3:aE W (w.heap.size+1+1+1) .u8 (rQ 16 0) 35:=h3
 clear h0 h1 h2 h3
 refine(pP (w.heap.size+1+1+1) 0 4 16 35 (rQ 16 0) counter W H3 (by decide) (by decide) hc0).mono ?_
 rintro e w1 ⟨rfl,hw1⟩
 have K0:aE w1 w.heap.size .u8 key 25:=by rw[hw1];exact H0.far _ _ (by omega) 0
 have K1:aE w1 (w.heap.size+1) .u8 nonce 30:=by rw[hw1];exact H1.far _ _ (by omega) 0
 have K2:aE w1 (w.heap.size+1+1) .u8 (rQ 64 0) 149:=by rw[hw1];exact H2.far _ _ (by omega) 0
 have K3:aE w1 (w.heap.size+1+1+1) .u8 (PF counter++rQ 12 0) 35:=by rw[hw1];exact H3.put _ 0
 have hb1:Below w.heap.size w w1:=by rw[hw1];exact aO hb _ (by omega) _
 have hs1:w1.heap.size=w.heap.size+1+1+1+1:=by rw[hw1];simpa using hs
 clear hw1 H0 H1 H2 H3 hb hs
 go_wp2_with fail
 refine wRh 2 I7 (by kernel_rfl) ?_
 simp only[tU,tJ,dJ,dY]
 repeat(go_big_quiet_step (fail))
 refine wqN ?_
 refine LP .u8 rfl (.tmp 15) (.tmp 16) 22 22 rfl 5 underlying22 (by kernel_rfl) (w.heap.size+1+1+1) 4 12 12 (w.heap.size+1) 0 12 12 rfl rfl (PF counter++rQ 12 0) nonce 35 K3 (by rw[hr];rfl) (by intro j hj;rw[Nat.zero_add];exact K1.cell j hj) (by rw[hr];simp[PF]) ?_
 have hrest:(PF counter++rQ 12 0).take 4++(nonce++(PF counter++rQ 12 0).drop (4+nonce.length))=gN counter nonce:=by
  rw[hr]
  simp[PF,gN]
 rw[hrest]
 clear hrest
 obtain⟨w2,hw2⟩:∃X,X=w1.drew.setRow (w.heap.size+1+1+1) (Iv .u8 (gN counter nonce)):=⟨_,rfl⟩
 rw[←hw2]
 have L0:aE w2 w.heap.size .u8 key 25:=by rw[hw2];exact aE.far (w:=w1.drew) K0 _ _ (by omega) 0
 have L2:aE w2 (w.heap.size+1+1) .u8 (rQ 64 0) 149:=by rw[hw2];exact aE.far (w:=w1.drew) K2 _ _ (by omega) 0
 have L3:aE w2 (w.heap.size+1+1+1) .u8 (gN counter nonce) 35:=by rw[hw2];exact aE.put (w:=w1.drew) K3 _ 0
 have hb2:Below w.heap.size w w2:=by rw[hw2];exact aO (bDr hb1 1) _ (by omega) _
 have hs2:w2.heap.size=w.heap.size+1+1+1+1:=by rw[hw2];simpa using hs1
 clear hw2 K0 K1 K2 K3 hb1 hs1
 have hrl:(gN counter nonce).length=16:=by simp[gN,PF,hr]
 have hik:(prog.info? 25).map (·.size)=some (Iv .u8 key).size:=by rw[aD,hk];exact aeP
 have hir:(prog.info? 35).map (·.size)=some (Iv .u8 (gN counter nonce)).size:=by rw[aD,hrl];exact aeO
 go_wp2_with(first|refine wpLr rfl 25 _ rfl w.heap.size rfl _ (Iv .u8 key) _ _ L0 underlying25 rfl hik ?_ |refine wpLr rfl 35 _ rfl (w.heap.size+1+1+1) rfl _ (Iv .u8 (gN counter nonce)) _ _ L3 underlying35 rfl hir ?_)
 refine(NV key (gN counter nonce) w2 hk hrl hkb (aV (DC _) hrb)).mono ?_
 have hF:Hid ((jM key (gN counter nonce)).length=16∧bJ (jM key (gN counter nonce))):=⟨by rw[MX];rfl,DY hkb (aV (DC _) hrb)⟩
 generalize hFe:jM key (gN counter nonce)=F at*
 have HFe:Hid _:=hFe
 clear hFe
 rintro e w3 ⟨rfl,hb3⟩
 have M2:aE w3 (w.heap.size+1+1) .u8 (rQ 64 0) 149:=L2.below hb3 (by omega)
 have hb4:Below w.heap.size w w3:=hb2.trans (hb3.mono (by omega))
 have hs3:w.heap.size+1+1+1+1≤w3.heap.size:=by have:=hb3.size;omega
 clear L0 L2 L3 hb2 hb3 hs2 hik hir
 have hiF:(prog.info? 177).map (·.size)=some (Iv .u32 F).size:=by rw[aD,hF.out.1];exact AW
 have HT:Hid ((w3.alloc (.cells (Iv .u32 (rQ 16 0)) 177)).heap[w3.heap.size]? =some (.cells (Iv .u32 (rQ 16 0)) 177)):=hAN _ _
 have HZ:Hid ((Iv .u32 (rQ 16 0)).size=(Iv .u32 F).size):=by show _=_;rw[aD,aD,hF.out.1,rJ]
 have HG:Hid ((((w3.alloc (.cells (Iv .u32 (rQ 16 0)) 177)).setRow w3.heap.size (Iv .u32 F)).alloc (.cells (Iv .u8 (rQ 64 0)) 149)).heap[w3.heap.size]? =some (.cells (Iv .u32 F) 177)):=by
  show _=_
  rw[hAO _ _ (by simp),setRow_heap _ _ _ _ _ _ HT.out]
 go_wp2_with(first|refine wpList_store_row rfl 177 _ _ rfl w3.heap.size (Iv .u32 F) rfl rfl _ _ HT.out hiF HZ.out (aG _ _) ?_ |refine wpLr rfl 177 _ rfl w3.heap.size rfl _ (Iv .u32 F) _ _ HG.out underlying177 rfl hiF ?_)
 obtain⟨W4,hW4⟩:∃X,X=((w3.alloc (.cells (Iv .u32 (rQ 16 0)) 177)).setRow w3.heap.size (Iv .u32 F)).alloc (.cells (Iv .u8 (rQ 64 0)) 149):=⟨_,rfl⟩
 have X1:aE W4 w3.heap.size .u32 F 177:=by rw[hW4];exact HG.out
 have X2:aE W4 (w3.heap.size+1) .u8 (rQ 64 0) 149:=by
  rw[hW4]
  show _=_
  rw[cI,if_pos (by simp)]
 have X3:aE W4 (w.heap.size+1+1) .u8 (rQ 64 0) 149:=by
  rw[hW4]
  show _=_
  rw[hAO _ _ (by simp;omega),cG _ _ _ _ (by omega),hAO _ _ (by omega)]
  exact M2
 have X4:Below w.heap.size w W4:=by
  rw[hW4]
  exact(aO (hb4.alloc (by omega) _) _ (by omega) _).alloc (by simp;omega) _
 have X5:w3.heap.size+1<W4.heap.size:=X2.lt
 refine(show Calls prog 128 #[.agg (Iv .u32 F)] W4 _ from(J5 F W4 hF.out.1 hF.out.2 (ht.later X4 (nQ _))).mono ?_)|>(hW4▸ ·)
 rintro e w5 ⟨rfl,hb5⟩
 have hR:Hid ((bK F 10).length=16∧bJ (bK F 10)):=⟨by rw[gP,hF.out.1],rF hF.out.2 10⟩
 generalize hRe:bK F 10=R at*
 have HRe:Hid (bK F 10=R):=hRe
 clear hRe
 have Y1:aE w5 w3.heap.size .u32 F 177:=X1.below hb5 (by omega)
 have Y2:aE w5 (w3.heap.size+1) .u8 (rQ 64 0) 149:=X2.below hb5 (by omega)
 have Y3:aE w5 (w.heap.size+1+1) .u8 (rQ 64 0) 149:=X3.below hb5 X3.lt
 have Y4:Below w.heap.size w w5:=X4.trans (hb5.mono (by omega))
 have hgt:w.heap.size+1+1<w3.heap.size:=by omega
 clear X1 X2 X3 X4 X5 hb5 hW4 HG HT HZ M2 hb4 hs3 hiF
 generalize w3.heap.size=gf at*
 have hib:(prog.info? 149).map (·.size)=some (Iv .u8 (iQ F R)).size:=by rw[aD,iQ,aS _ _ _ _ (by simp)];exact XD
 have HIB:Hid ((Iv .u8 (rQ 64 0)).size=(Iv .u8 (iQ F R)).size):=by show _=_;rw[aD,aD,iQ,aS _ _ _ _ (by simp)]
 have hib':Hid _:=hib
 clear hib
 go_wp2_with fail
 go_loopw [23] (fun i wr=>∃k:Nat,k≤16∧i=.int .i64 k∧aE wr gf .u32 F 177∧aE wr (gf+1) .u8 (pF9 (rQ 64 0) 0 (jI F R) (4*k)) 149∧aE wr (w.heap.size+1+1) .u8 (rQ 64 0) 149∧Below w.heap.size w wr) (fun i _=>16 - (intOf i).toNat)
 case atStart=>exact⟨0,by omega,rfl,Y1,by rw[Nat.mul_zero,cR];exact Y2,Y3,Y4⟩
 case round=>
  obtain⟨k,hk,rfl,Z1,Z2,Z3,Z4⟩:=hrel
  clear Y1 Y2 Y3 Y4
  by_cases hlt:k<16
  ·have hRk:∀wx,(Instr.index 177 (.agg (Iv .u32 R)) (.int .i64 (k:Int))).run prog wx=.ok (.int .u32 (R.getD k 0)) wx:=qT 177 32 16 .u32 R k underlying177 underlying32 (by kernel_rfl) hR.out.1 hlt
   have hFk:wr.cell? ⟨gf,k,none⟩=some (.int .u32 (F.getD k 0)):=Z1.cell k (by rw[hF.out.1];exact hlt)
   have wR:=hR.out.2 k
   have wF:=hF.out.2 k
   have HS:Hid (pF9 (pF9 (rQ 64 0) 0 (jI F R) (4*k)) (4*k) (fun i=>(R.getD k 0+F.getD k 0)%4294967296 / 256^i%256) 4=pF9 (rQ 64 0) 0 (jI F R) (4*(k+1))):=by
    show _=_
    rw[BO _ _ _ _ _ (by simp;omega),Nat.mul_add]
    intro i hi
    rw[jI,show(4*k+i) / 4=k by omega,show(4*k+i)%4=i by omega]
   generalize R.getD k 0=x at*
   generalize F.getD k 0=y at*
   obtain⟨x0,x1⟩:=wR
   obtain⟨y0,y1⟩:=wF
   have hk0:(0:Int)≤(k:Int):=by omega
   have hk1:(k:Int)<16:=by omega
   have s1:(0:Int)≤4*(k:Int):=by omega
   have s2:4*(k:Int)≤4*(k:Int)+4:=by omega
   have s3:4*(k:Int)+4≤64:=by omega
   have s4:(0:Int)≤4*(k:Int)+4:=by omega
   go_wp2_with fail
   refine wRh 11 I7 (by kernel_rfl) ?_
   simp only[tU,tJ,dJ,dY]
   repeat(go_big_quiet_step (fail))
   refine wqN ?_
   go_wp2_with fail
   rw[show 4*k+4 - 4*k=4 by omega]
   refine(pP (gf+1) (4*k) 4 _ 149 (pF9 (rQ 64 0) 0 (jI F R) (4*k)) ((x+y)%4294967296) wr.drew Z2 (by rw[aS _ _ _ _ (by simp;omega)];simp;omega) (by omega) (by omega)).mono ?_
   rintro e w6 ⟨rfl,hw6⟩
   rw[HS.out]at hw6
   have V1:aE w6 gf .u32 F 177:=by rw[hw6];exact aE.far (w:=wr.drew) Z1 _ _ (by omega) 0
   have V2:aE w6 (gf+1) .u8 (pF9 (rQ 64 0) 0 (jI F R) (4*(k+1))) 149:=by rw[hw6];exact aE.put (w:=wr.drew) Z2 _ 0
   have V3:aE w6 (w.heap.size+1+1) .u8 (rQ 64 0) 149:=by rw[hw6];exact aE.far (w:=wr.drew) Z3 _ _ (by omega) 0
   have V4:Below w.heap.size w w6:=by rw[hw6];exact aO (bDr Z4 1) _ (by omega) _
   clear hw6 Z1 Z2 Z3 Z4 HS
   go_wp2_with fail
   go_roundw
   case rel=>exact⟨k+1,by omega,by go_num,V1,V2,V3,V4⟩
   case measure=>simp[intOf];omega
  ·obtain rfl:k=16:=by omega
   have Z2':aE wr (gf+1) .u8 (iQ F R) 149:=Z2
   clear Z2
   go_wp2_with(first|refine wpLr rfl 149 _ rfl _ rfl _ _ _ _ Z2' underlying149 rfl hib'.out ?_ |refine wpList_store_row rfl 149 _ _ rfl _ (Iv .u8 (iQ F R)) rfl rfl _ _ Z3 hib'.out HIB.out (aG _ _) ?_)
   refine pW (cs:=Iv .u8 (iQ F R)) results117 ?_ (setRow_heap _ _ _ _ _ _ Z3) underlying149 hib'.out ?_
   ·rfl
   ·exact⟨by rw[HFe.out,HRe.out],aO Z4 _ (by omega) _⟩
theorem yW (key:LI) (counter:Int) (ws:LI):(nP key counter ws).length=16:=by
 have h1:(pF9 mN 4 (aF key) 8).length=16:=by rw[aS _ _ _ _ (by decide)];rfl
 unfold nP
 rw[aS _ _ _ _ (by rw[h1];decide)]
 exact h1
def DQ (st mx:LI) (k:Nat):LI:=(List.range k).map fun i=>(aM mx i+aM st i)%4294967296
theorem FE (st mx:LI) (k:Nat):(DQ st mx k).length=k:=by simp[DQ]
theorem aa7 (st mx:LI) (k:Nat):DQ st mx (k+1)=DQ st mx k++[(aM mx k+aM st k)%4294967296]:=by simp[DQ,List.range_succ]
theorem adI (st mx:LI) (k:Nat):bJ (DQ st mx k):=by
 intro i
 unfold DQ gG
 rw[List.getD_eq_getElem?_getD,List.getElem?_map]
 cases (List.range k)[i]? with
 | none=>simp
 | some j=>simp only[Option.map_some,Option.getD_some];omega
theorem abS (st mx:LI):bytesOf (DQ st mx 16) (4*16)=iQ st mx:=by
 have h:iQ st mx=(List.range 64).map (jI st mx):=by simp[iQ,pF9]
 rw[h]
 unfold bytesOf
 refine List.map_congr_left fun i hi=>?_
 have hi':i<64:=List.mem_range.1 hi
 unfold iI jI
 have e:aM (DQ st mx 16) (i / 4)=(mx.getD (i / 4) 0+st.getD (i / 4) 0)%4294967296:=by
  unfold aM DQ
  rw[List.getD_eq_getElem?_getD,List.getElem?_map,List.getElem?_range (by omega)]
  rfl
 rw[e]
theorem KK (l:LI) (off k:Nat) (f g:Nat→Int) (h:∀i,i<k→f i=g i):pF9 l off f k=pF9 l off g k:=by
 unfold pF9
 rw[List.map_congr_left (fun i hi=>h i (List.mem_range.1 hi))]
theorem MW (key nonce:LI) (counter:Int) (hc0:0≤counter) (hc1:counter<4294967296):nP key counter (bI nonce 3)=jM key (gN counter nonce):=by
 unfold nP jM
 refine KK _ _ _ _ _ fun i hi=>?_
 match i,hi with
 | 0,_=>
   simp[aM,aF,gN,PF,List.range_succ]
   omega
 | 1,_=>simp[aM,aF,gN,PF,bI,List.range_succ]
 | 2,_=>simp[aM,aF,gN,PF,bI,List.range_succ]
 | 3,_=>simp[aM,aF,gN,PF,bI,List.range_succ]
theorem VX (key nonce:LI) (counter:Int) (hkb:aC key) (hrb:aC nonce) (hc0:0≤counter) (hc1:counter<4294967296):bJ (nP key counter (bI nonce 3)):=by
 rw[MW key nonce counter hc0 hc1]
 exact DY hkb (aV (DC _) hrb)
theorem DM (key nonce:LI) (counter:Int) (w:World) (hk:key.length=32) (hr:nonce.length=12) (hkb:aC key) (hrb:aC nonce) (hc0:0≤counter) (hc1:counter<4294967296)
 (Bf:LI) (HBF:Hid (iQ (nP key counter (bI nonce 3)) (bK (nP key counter (bI nonce 3)) 10)=Bf)):
 Calls prog 72 #[.agg (Iv .u8 key),.int .u32 counter,.agg (Iv .u8 nonce)] w fun e w'=>e=.returned (.agg (Iv .u8 Bf))∧Below w.heap.size w w':=by
 have hzv:∀W,(zeroValue 149).run prog W=.ok (.agg (Iv .u8 (aA 64))) W:=(zero_of_info (n:=64) (by kernel_rfl)).1
 go_enter func72,ntmps72
 go_wp2_with fail
 obtain⟨W,hW,g0,g1,g2,hs,hb⟩:=pL w (.cells (Iv .u8 key) 25) (.cells (Iv .u8 nonce) 30) (.cells (Iv .u8 (aA 64)) 149)
 rw[hW]
 refine KZ (ops:=pO) (sO key nonce counter w.heap.size W (bI nonce 3)) (by kernel_rfl) ?_ ?_ ?_
 ·exact⟨undef,undef,undef,undef,undef,undef,undef,undef,rfl,{ size:=rfl,bel:=bDr (Below.refl _ _) 1,p0:=fun h=>(by cases h),p1:=fun h=>(by cases h),p3:=fun h=>(by cases h),p2:=fun h=>(by cases h),p4:=fun h=>(by cases h),p5:=fun h=>(by cases h),p6:=fun h=>(by cases h),p8:=fun h=>(by cases h),p7:=fun h=>(by cases h) }⟩
 ·rintro listed a w1 ⟨x7,x14,x15,x16,x17,x18,x19,x20,rfl,h⟩ hready
  obtain⟨l7,l8⟩:=aeH h.size hready
  obtain⟨g7,rfl,hg7,hrow,hdis⟩:=h.p7 l7
  rw[l8,if_pos rfl]at hrow
  have hbel:=h.bel
  have hst:=yW key counter (bI nonce 3)
  have h32:=VX key nonce counter hkb hrb hc0 hc1
  generalize nP key counter (bI nonce 3)=st at*
  have hzt:∀W,(zeroValue 177).run prog W=.ok (.agg (Iv .u32 (aA 16))) W:=(zero_of_info (n:=16) (by kernel_rfl)).1
  have hik:∀l:LI,l.length=16→(prog.info? 177).map (·.size)=some (Iv .u32 l).size:=fun l hl=>by rw[aD,hl];exact XI
  have HIK:Hid _:=hik
  have HR7:Hid _:=hrow
  have HZ64:=(hbel.block _ (show w.heap.size+1+1<W.heap.size by omega)).trans g2
  have HOUT:Hid _:=HZ64
  have HBW:Hid _:=hb.trans (hbel.mono (by omega))
  have hsz1:=hbel.size
  have hlt7:g7<w1.heap.size:=(Array.getElem?_eq_some_iff.1 hrow).1
  unfold LV
  go_wp2_with(refine wpLr rfl 177 _ rfl g7 rfl _ (Iv .u32 st) _ _ HR7.out underlying177 rfl (HIK.out st hst) ?_)
  refine(OI st w1 hst h32).mono ?_
  rintro e w2 ⟨rfl,hb2⟩
  have hmx:(bK st 10).length=16:=(gP st 10).trans hst
  have hm32:=rF h32 10
  generalize bK st 10=mx at*
  have HR7b:Hid _:=(hb2.block _ hlt7).trans HR7.out
  have HOUTb:Hid _:=(hb2.block _ (show w.heap.size+1+1<w1.heap.size by omega)).trans HOUT.out
  have HBWb:Hid _:=HBW.out.trans (hb2.mono HBW.out.size)
  have hlt2:=nJ hlt7 hb2.size
  have hlo2:w.heap.size+1+1<w2.heap.size:=by have:=hb2.size;omega
  have HT:Hid ((w2.alloc (.cells (Iv .u32 (aA 16)) 177)).heap[w2.heap.size]? =some (.cells (Iv .u32 (aA 16)) 177)):=hAN _ _
  have HS:Hid ((Iv .u32 (aA 16)).size=(Iv .u32 mx).size):=by show _=_;rw[aD,aD,hmx];rfl
  go_wp2_with(refine wpPr rfl 177 _ _ rfl w2.heap.size (Iv .u32 mx) rfl rfl _ _ HT.out (HIK.out mx hmx) HS.out (aG _ _) ?_)
  intro w3 hP3
  have R8:=hP3.here
  have R7:=(hP3.far g7 (by omega)).trans ((hAO _ _ hlt2).trans HR7b.out)
  have RO:=(hP3.far (w.heap.size+1+1) (by omega)).trans ((hAO _ _ hlo2).trans HOUTb.out)
  have RB:Below w.heap.size w w3:=hP3.below _ _ (HBWb.out.alloc HBWb.out.size _) HBWb.out.size
  have hs3:w3.heap.size=w2.heap.size+1:=by rw[hP3.size];simp
  obtain⟨g8,hg8⟩:∃g,g=w2.heap.size:=⟨_,rfl⟩
  rw[←hg8]at R8 hs3 hlt2 hlo2⊢
  clear hP3 HT HS HR7b HOUTb HBWb hg8
  have K8:Hid _:=R8
  have K7:Hid _:=R7
  have KO:Hid _:=RO
  have KB:Hid _:=RB
  clear R8 R7 RO RB
  go_wp2_with fail
  have hs3g:w3.heap.size=g8+1:=hs3
  go_loopw [9,24] (fun x i wr=>∃k:Nat,k≤16∧i=.int .i64 k∧bM .u32 32 w3.heap.size wr x (DQ st mx k)∧Below w3.heap.size w3 wr) (fun _ i _=>16 - (intOf i).toNat)
  case atStart=>
   refine⟨0,Nat.zero_le _,rfl,?_,(Below.refl _ _).alloc (nQ _) _⟩
   have:=bM.nil (k:=.u32) (e:=32) (base:=w3.heap.size) w3 (nQ _)
   rw[hs3g]at this⊢
   exact this
  case round=>
   obtain⟨k,hk,rfl,hown,hbel⟩:=hrel
   have hszr:=hbel.size
   by_cases hlt:k<16
   ·have c8:wr.cell? ⟨g8,k,none⟩=some (.int .u32 (aM mx k)):=by
     rw[cell_of_row _ _ _ _ _ _ ((hbel.block g8 (by omega)).trans K8.out),dG .u32 _ k (by omega)]
     simp[aM,hmx,hlt]
    have c7:wr.cell? ⟨g7,k,none⟩=some (.int .u32 (aM st k)):=by
     rw[cell_of_row _ _ _ _ _ _ ((hbel.block g7 (by omega)).trans K7.out),dG .u32 _ k (by omega)]
     simp[aM,hst,hlt]
    have hlS:=FE st mx k
    have HSS:Hid _:=aa7 st mx k
    have b8:=hm32 k
    have b7:=h32 k
    have b8':=b8
    have b7':0≤aM st k∧aM st k<4294967296:=b7
    clear b8 b7
    generalize aM mx k=y8 at*
    generalize aM st k=y7 at*
    obtain⟨b80,b81⟩:=b8'
    obtain⟨b70,b71⟩:=b7'
    have HOW:Hid _:=hown
    have HBE:Hid _:=hbel
    clear hown hbel
    obtain⟨WX,hWX⟩:∃X,X=wr:=⟨_,rfl⟩
    rw[←hWX]at c8 c7 HOW HBE hszr⊢
    clear hWX
    go_wp2_with fail
    refine wRl 8 (fun _=>True) [(.held,[0,1,2,4,5]),(.exact,[3,6]),(.held,[7]),(.tail,[8]),(.tail,[9]),(.tail,[10])] (by kernel_rfl) (by kernel_rfl) trivial ?_
    simp only[iX,oS]
    repeat(go_big_quiet_step (fail))
    refine wqN ?_
    repeat(go_big_quiet_step (fail))
    refine wqN ?_
    repeat(go_big_quiet_step (fail))
    refine wqN ?_
    go_wp2_with fail
    refine⟨trivial,?_⟩
    refine cK .u32 75 32 4 underlying75 uS (by decide) rfl (.tmp 27) (.tmp 35) rfl w3.heap.size w3 WX.drew _ (DQ st mx k) _ rfl rfl HOW.out (bDr HBE.out 1) hszr (by rw[hlS];omega) ?_
    intro v' w' ho hb' _ _
    simp only[pS]
    go_wp2_with fail
    refine⟨trivial,?_⟩
    go_wp2_with fail
    refine⟨trivial,dV ?_⟩
    go_wp2
    go_roundw
    case rel=>
     refine⟨k+1,by omega,by go_num,?_,hb'⟩
     rw[HSS.out]
     exact nM ho rfl
    case measure=>simp[intOf];omega
   ·obtain rfl:k=16:=by omega
    have hSl:=FE st mx 16
    have hS32:=adI st mx 16
    have HFIN:Hid _:=(abS st mx).trans HBF.out
    generalize DQ st mx 16=S at*
    have HOW:Hid _:=hown
    have HBW:Hid _:=KB.out.trans (hbel.mono (by omega))
    have HRES:Hid _:=(hbel.block (w.heap.size+1+1) (by omega)).trans KO.out
    have hsr:w.heap.size+1+1<wr.heap.size:=by omega
    have HT:Hid ((wr.alloc (.cells (Iv .u8 (aA 64)) 149)).heap[wr.heap.size]? =some (.cells (Iv .u8 (aA 64)) 149)):=hAN _ _
    have hi64:Hid (∀l:LI,l.length=64→(prog.info? 149).map (·.size)=some (Iv .u8 l).size):=fun l hl=>by rw[aD,hl];exact XD
    go_wp2_with(refine wpPr rfl 149 _ _ rfl wr.heap.size (Iv .u8 (aA 64)) rfl rfl _ _ HT.out (hi64.out _ (by simp[aA])) rfl (aG _ _) ?_)
    intro w4 hP4
    have hb4:=hP4.below _ _ ((Below.refl _ _).alloc (nQ _) _) (nQ _)
    have o4:=bM.later HOW.out hb4
    obtain⟨a9,n9,c9,rfl,hn9,hrd9⟩:=o4.rdk
    rw[hSl]at hn9
    subst hn9
    have RO:=hP4.here
    have hs4:wr.heap.size<w4.heap.size:=by rw[hP4.size];simp
    have RB:=HBW.out.trans (hb4.mono HBW.out.size)
    have RR:=(hb4.block (w.heap.size+1+1) (by omega)).trans HRES.out
    obtain⟨gO,hgO⟩:∃g,g=wr.heap.size:=⟨_,rfl⟩
    rw[←hgO]at RO hs4 hsr⊢
    have HC:Hid _:=xO S 16 hSl hS32 (by omega) a9 c9 w4 hrd9
    have MO:Hid _:=RO
    have MB:Hid _:=RB
    have MR:Hid _:=RR
    clear RO RB RR hP4 hb4 o4 hrd9 HOW HBW HRES HT hgO
    go_wp2_with fail
    refine Calls.mono HC.out ?_
    rintro e w5 ⟨v5,rfl,o5,b5⟩
    have hBl:(bytesOf S (4*16)).length=64:=jX _ _
    obtain⟨_,hbad⟩|⟨a3,c3,rfl,ha3,hb3,_,_,hcv,_⟩:=o5.at
    ·exact absurd (congrArg List.length hbad) (by rw[hBl];simp)
    rw[hBl]at hcv⊢
    generalize bytesOf S (4*16)=B at*
    have r1:=(b5.block gO hs4).trans MO.out
    have r0:=(b5.block (w.heap.size+1+1) (by omega)).trans MR.out
    have hbw:=MB.out.trans (b5.mono MB.out.size)
    have y3:=hcv
    have hn3:a3≠gO:=by omega
    clear o5 b5 MO MB MR hcv HC ha3 hb3
    go_wp2_with fail
    have hlen:=hBl
    go_loopw [42] (fun i wr=>∃k:Nat,k≤64∧i=.int .i64 k∧wr.heap[gO]? =some (.cells (Iv .u8 (bV B 64 k)) 149)∧wr.heap[w.heap.size+1+1]? =some (.cells (Iv .u8 (aA 64)) 149)∧(∀j,j<64→wr.cell? ⟨a3,j,none⟩=some (.int .u8 (B.getD j 0)))∧Below w.heap.size w wr) (fun i _=>64 - (intOf i).toNat)
    case atStart=>exact⟨0,Nat.zero_le _,rfl,r1,r0,y3,hbw⟩
    case round=>
     obtain⟨k,hk,rfl,q1,q0,qL,qB⟩:=hrel
     by_cases hlt:k<64
     ·have cB:=qL k hlt
      have cO:∃v,wr.cell? ⟨gO,k,none⟩=some v:=by
       rw[cell_of_row _ _ _ _ _ _ q1]
       exact nD _ _ _ (by rw[iB _ _ _ hlen (by omega)];omega)
      obtain⟨v,hv⟩:=cO
      have fO:wr.frozen? ⟨gO,k,none⟩=false:=frozen_of_row _ _ _ _ _ q1
      have hgd:B.getD k 0=B[k]:=by rw[List.getD_eq_getElem?_getD,List.getElem?_eq_getElem (by omega)];rfl
      rw[hgd]at cB
      have Q1:Hid _:=q1
      have Q0:Hid _:=q0
      have QL:Hid _:=qL
      have QB:Hid _:=qB
      go_wp2
      go_roundw
      case rel=>
       refine⟨k+1,by omega,by go_num,?_,?_,?_,?_⟩
       ·rw[heap_setCell_same _ _ _ _ _ _ Q1.out,bZ]
        unfold bV
        exact congrArg (fun z=>some (Obj.cells (Iv .u8 z) 149)) (wW B 64 k hlen hlt 0)
       ·rw[heap_setCell_other _ _ _ _ (by show w.heap.size+1+1≠gO;omega)]
        exact Q0.out
       ·intro j hj
        rw[World.cell?_setCell_other _ _ _ _ (by intro e;cases e;exact hn3 rfl)]
        exact QL.out j hj
       ·exact QB.out.setCell (p:=⟨gO,k,none⟩) (by show w.heap.size≤gO;omega) _
      case measure=>simp[intOf];omega
     ·obtain rfl:k=64:=by omega
      rw[tI B 64 hlen]at q1
      have G2:Hid _:=q1
      have G1:Hid _:=q0
      have GB:Hid _:=qB
      go_wp2_with(first
       | refine wpLr rfl 149 _ rfl gO rfl _ (Iv .u8 B) _ _ G2.out underlying149 rfl (hi64.out B hlen) ?_
       | refine wpPr rfl 149 _ _ rfl (w.heap.size+1+1) (Iv .u8 B) rfl rfl _ _ G1.out (hi64.out B hlen) ?hs (aG _ _) ?_)
      case hs=>rw[aD,aD,hlen];rfl
      intro W9 hP9
      go_wp2
      exact bodyPost_ret (v:=.agg (Iv .u8 B)) (results_cell_row rfl _ _ _ _ (Iv .u8 B) _ _ rfl hP9.here underlying149 rfl (hi64.out B hlen)) rfl ⟨by rw[HFIN.out],hP9.below _ _ GB.out (by omega)⟩
 ·rintro listed i a w1 ⟨x7,x14,x15,x16,x17,x18,x19,x20,rfl,h⟩ hi
  have hwl:(bI nonce 3).length=3:=by simp[bI]
  match i,hi with
  | 0,hi=>exact dR rfl (agT h hi hk g0 (by omega))
  | 1,hi=>exact dR rfl (agU h hi)
  | 2,hi=>exact dR rfl (agV h hi)
  | 3,hi=>exact dR rfl (agW h hi)
  | 4,hi=>exact dR rfl (agX h hi hr hrb g1 (by omega) rfl)
  | 5,hi=>exact dR rfl (agY h hi hwl)
  | 6,hi=>exact dR rfl (agZ h hi hk hkb hwl)
  | 7,hi=>exact dR rfl (ag0 h hi)
  | 8,hi=>exact dR rfl (ag1 h hi (yW _ _ _))
  | n+9,hi=>
    obtain⟨_,o,ho,_⟩:=mem_ready.1 hi
    exact absurd (Array.getElem?_eq_some_iff.1 ho).1 (by show¬n+9<9;omega)
theorem DL (key nonce:LI) (counter:Int) (w:World) (hk:key.length=32) (hr:nonce.length=12) (hkb:aC key) (hrb:aC nonce) (hc0:0≤counter) (hc1:counter<4294967296):
 Calls prog 72 #[.agg (Iv .u8 key),.int .u32 counter,.agg (Iv .u8 nonce)] w fun e w'=>e=.returned (.agg (Iv .u8 (iQ (jM key (gN counter nonce)) (bK (jM key (gN counter nonce)) 10))))∧Below w.heap.size w w':=by
 rw[←MW key nonce counter hc0 hc1]
 exact DM key nonce counter w hk hr hkb hrb hc0 hc1 _ rfl
theorem TQ (n:Nat):aC (rQ n 0):=fun i=>by simp[List.getD_eq_getElem?_getD,List.getElem?_replicate];split<;>simp
def Sl (w:World) (g o:Nat) (l:LI):Prop:=g<w.heap.size∧∀i,i<l.length→w.cell? ⟨g,o+i,none⟩=some (.int .u8 (l.getD i 0))
theorem Sl.later {w w':World} {B g o:Nat} {l:LI} (h:Sl w g o l) (hb:Below B w w') (hB:g<B):Sl w' g o l:=
 ⟨nJ h.1 hb.size,fun i hi=>(hb.cell (p:=⟨g,o+i,none⟩) hB).trans (h.2 i hi)⟩
theorem Sl.of_row {w:World} {g:Nat} {l:LI} {t:TypeId} (h:w.heap[g]? =some (.cells (Iv .u8 l) t)):Sl w g 0 l:=
 ⟨(Array.getElem?_eq_some_iff.1 h).1,fun i hi=>by rw[Nat.zero_add,cell_of_row _ _ _ _ _ _ h];simp[Iv,hi]⟩
theorem Sl.take {w:World} {g o:Nat} {l:LI} (h:Sl w g o l) (n:Nat):Sl w g o (l.take n):=
 ⟨h.1,fun i hi=>by rw[List.length_take]at hi;rw[h.2 i (by omega)];simp[List.getD_eq_getElem?_getD,show i<n by omega]⟩
theorem Sl.drop {w:World} {g o:Nat} {l:LI} (h:Sl w g o l) (n:Nat):Sl w g (o+n) (l.drop n):=
 ⟨h.1,fun i hi=>by rw[List.length_drop]at hi;rw[Nat.add_assoc,h.2 (n+i) (by omega)];simp[List.getD_eq_getElem?_getD]⟩
theorem Sl.of_own {w:World} {base:Nat} {g n cap:Nat} {e:TypeId} {l:LI} (h:bM .u8 e base w (.slice (some ⟨g,0,none⟩) n cap) l):Sl w g 0 l:=by
 obtain⟨h1,⟨hv,_⟩|⟨g',cap',cur,hv,hg,hh,hc,hmx,hs,ht⟩⟩:=h
 ·cases hv
 ·simp at hv
  obtain⟨rfl,rfl,rfl⟩:=hv
  refine⟨(Array.getElem?_eq_some_iff.1 hh).1,fun i hi=>?_⟩
  have:=World.ownsRow.cells (w:=w) (base:=base) (e:=e) (size:=1) (v:=.slice (some ⟨g,0,none⟩) l.length cap) (n:=l.length) (xs:=iv .u8 l) (g:=g) ⟨by simp[eT],.inr ⟨g,cap,cur,rfl,hg,hh,hc,hmx,hs,ht⟩⟩ rfl i (.int .u8 (l.getD i 0)) (by rw[IT];simp[hi])
  have e2:(⟨g,0,none⟩:Addr).add i=⟨g,0+i,none⟩:=by unfold Addr.add;split<;>simp_all
  rw[e2]at this
  exact this
theorem pN:(prog.info? 5).map (fun i=>(i.zero,i.size,i.bytes))=some (some (.int .u8 0),1,1):=by kernel_rfl
theorem RH {k:IntKind} {e:TypeId} {base:Nat} {w:World} {g n cap:Nat} {l:LI} (h:bM k e base w (.slice (some ⟨g,0,none⟩) n cap) l) (j:Nat):w.frozen? ⟨g,j,none⟩=false:=by
 obtain⟨h1,⟨hv,_⟩|⟨g',cap',cur,hv,hg,hh,hc,hmx,hs,ht⟩⟩:=h
 ·cases hv
 ·simp at hv
  obtain⟨rfl,rfl,rfl⟩:=hv
  exact frozen_of_row _ _ _ _ _ hh
theorem OQ {k:IntKind} {e:TypeId} {base:Nat} {w W:World} {g n cap b:Nat} {l:LI} {cs:Array Value} {t:TypeId} (h:bM k e base w (.slice (some ⟨g,0,none⟩) n cap) l) (hp:nE w b cs t W) (hne:g≠b):bM k e base W (.slice (some ⟨g,0,none⟩) n cap) l:=by
 obtain⟨h1,⟨hv,_⟩|⟨g',cap',cur,hv,hg,hh,hc,hmx,hs,ht⟩⟩:=h
 ·cases hv
 ·simp at hv
  obtain⟨rfl,rfl,rfl⟩:=hv
  exact⟨h1,.inr ⟨g,cap,cur,rfl,hg,(hp.far _ hne).trans hh,hc,hmx,hs,ht⟩⟩
theorem tX {k:IntKind} {e:TypeId} {base:Nat} {w:World} {v:Value} {l:LI} (h:bM k e base w v l) (hv:v.ownBlock≠none):∃g cap,v=.slice (some ⟨g,0,none⟩) l.length cap∧base≤g∧l.length≤cap∧cap≤9223372036854775807∧g<w.heap.size∧v.ownBlock=some g:=by
 obtain⟨_,⟨rfl,_⟩|⟨g,cap,cur,rfl,hg,hh,hc,hmx,hs,ht⟩⟩:=h
 ·exact absurd rfl hv
 ·exact⟨g,cap,rfl,hg,hc,by unfold maxLen at hmx;omega,(Array.getElem?_eq_some_iff.1 hh).1,rfl⟩
theorem AP {v v':Value} {n:Nat} (hv:v.ownBlock≠none) (h:v'.ownBlock=v.ownBlock∨v'.ownBlock=some n):v'.ownBlock≠none:=by
 rcases h with h|h
 ·rw[h];exact hv
 ·rw[h];simp
theorem JC {e:TypeId} {base:Nat} {w:World} {v:Value} {l:LI} (h:bM .u8 e base w v l) (hl:0<l.length):∃g cap,v=.slice (some ⟨g,0,none⟩) l.length cap∧base≤g∧l.length≤cap∧cap≤9223372036854775807∧g<w.heap.size∧v.ownBlock=some g:=by
 obtain⟨_,⟨_,h0⟩|⟨g,cap,cur,rfl,hg,hh,hc,hmx,hs,ht⟩⟩:=h
 ·omega
 ·exact⟨g,cap,rfl,hg,hc,by unfold maxLen at hmx;omega,(Array.getElem?_eq_some_iff.1 hh).1,rfl⟩
def JX (k:IntKind) (e:TypeId) (base:Nat) (w:World) (v:Value) (l:LI):Prop:=bM k e base w v l∧v.ownBlock≠none
theorem JX.later {k:IntKind} {e:TypeId} {base:Nat} {w w':World} {v:Value} {l:LI} (h:JX k e base w v l) (hb:Below w.heap.size w w'):JX k e base w' v l:=⟨bM.later h.1 hb,h.2⟩
theorem JX.mono {k:IntKind} {e:TypeId} {base base':Nat} {w:World} {v:Value} {l:LI} (h:JX k e base w v l) (hb:base'≤base):JX k e base' w v l:=⟨bM.mono h.1 hb,h.2⟩
theorem JX.sl {e:TypeId} {base:Nat} {w:World} {v:Value} {l:LI} (h:JX .u8 e base w v l):∃g cap,v=.slice (some ⟨g,0,none⟩) l.length cap∧base≤g∧Sl w g 0 l∧l.length≤cap∧cap≤9223372036854775807:=by
 obtain⟨g,cap,rfl,h1,h2,h3,h4,_⟩:=tX h.1 h.2
 exact⟨g,cap,rfl,h1,Sl.of_own h.1,h2,h3⟩
theorem JX.row {e:TypeId} {base:Nat} {w:World} {v:Value} {l:LI} (h:JX .u8 e base w v l):∃g cap cur,v=.slice (some ⟨g,0,none⟩) l.length cap∧base≤g∧w.heap[g]? =some (.cells cur e)∧(∀i,i<l.length→cur[i]? =some (.int .u8 (l.getD i 0))):=by
 obtain⟨⟨h1,⟨rfl,_⟩|⟨g,cap,cur,rfl,hg,hh,hc,hmx,hs,ht⟩⟩,hne⟩:=h
 ·exact absurd rfl hne
 ·refine⟨g,cap,cur,rfl,hg,hh,fun i hi=>?_⟩
  have e1:(cur.toList.take (l.length*1))[i]? =(iv .u8 l)[i]? :=by rw[ht]
  rw[List.getElem?_take,if_pos (by omega),Array.getElem?_toList]at e1
  rw[e1,IT]
  simp[hi]
def xb (a b:Int):Int:=bits .xor .u8 a b
theorem agI (a b:Int):0≤xb a b∧xb a b≤255:=by
 unfold xb
 rw[bits.eq_3,IntKind.wrap_u8]
 omega
def blk (key nonce:LI) (i:Nat):LI:=iQ (jM key (gN i nonce)) (bK (jM key (gN i nonce)) 10)
def iW (B:Nat→LI) (text:LI) (k:Nat):LI:=(List.range k).map fun i=>xb (text.getD i 0) ((B (1+i / 64)).getD (i%64) 0)
theorem MY (B:Nat→LI) (text:LI) (k:Nat):iW B text (k+1)=iW B text k++[xb (text.getD k 0) ((B (1+k / 64)).getD (k%64) 0)]:=by simp[iW,List.range_succ]
theorem eF (B:Nat→LI) (text:LI) (k:Nat):(iW B text k).length=k:=by simp[iW]
theorem tO (f:Nat→Int) (n:Nat) (h:∀i,0≤f i∧f i≤255):aC ((List.range n).map f):=by
 intro i
 simp only[List.getD_eq_getElem?_getD,List.getElem?_map]
 by_cases h1:i<n
 ·rw[List.getElem?_range h1]
  exact h i
 ·rw[List.getElem?_eq_none (by simp;omega)]
  exact(show(0:Int)≤0∧(0:Int)≤255 from⟨by decide,by decide⟩)
theorem zV (B:Nat→LI) (text:LI) (k:Nat):aC (iW B text k):=tO _ _ (fun i=>agI _ _)
def nX (n:Nat):Nat:=(16 - n%16)%16
def iP (l:LI):LI:=l++rQ (nX l.length) 0
def IX (n:Nat):LI:=(List.range 8).map fun i=>(n:Int) / 256^i%256
theorem fP (n:Nat):(IX n).length=8:=by simp[IX]
theorem L5 (n:Nat):aC (IX n):=tO _ _ (fun i=>by omega)
def vY (E H:LI):LI:=iP E++(iP H++(IX E.length++IX H.length))
def FY (B:Nat→LI) (E H:LI):LI:=gQ ((B 0).take 32) (vY E H)
def sL (B:Nat→LI) (E text:LI):LI:=iW B text text.length++FY B E (iW B text text.length)
theorem pB (n:Nat):nX n<16:=Nat.mod_lt _ (by decide)
theorem jC (l:LI):(iP l).length=l.length+nX l.length:=by simp[iP]
theorem D8 {l:LI} (h:aC l):aC (iP l):=aV h (TQ _)
theorem I5 {E H:LI} (hE:aC E) (hH:aC H):aC (vY E H):=aV (D8 hE) (aV (D8 hH) (aV (L5 _) (L5 _)))
theorem sG (E H:LI):(vY E H).length=E.length+nX E.length+(H.length+nX H.length+16):=by simp[vY,jC,fP]
def AA (f:Nat) (key nonce:LI) (B:Nat→LI) (C:World→Prop):Prop:=
 ∀(i:Nat) (W:World),i≤2000→C W→Calls prog f #[.agg (Iv .u8 key),.int .u32 (i:Int),.agg (Iv .u8 nonce)] W fun e w'=>e=.returned (.agg (Iv .u8 (B i)))∧Below W.heap.size W w'
theorem IB (key nonce:LI) (hk:key.length=32) (hr:nonce.length=12) (hkb:aC key) (hrb:aC nonce):AA 117 key nonce (blk key nonce) gU:=
 fun i W hi hW=>NU key nonce i W hk hr hkb hrb (by omega) (by omega) hW
theorem TV (key nonce:LI) (hk:key.length=32) (hr:nonce.length=12) (hkb:aC key) (hrb:aC nonce):AA 72 key nonce (blk key nonce) (fun _=>True):=
 fun i W hi _=>DL key nonce i W hk hr hkb hrb (by omega) (by omega)
end Go.Proofs.YtmjccemdldidaaaGreatDoor
