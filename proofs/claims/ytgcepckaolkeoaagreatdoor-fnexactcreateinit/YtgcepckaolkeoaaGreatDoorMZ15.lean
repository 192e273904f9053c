import Derived.Test.YtgcepckaolkeoaaGreatDoorMZ14
namespace Go.Proofs.YtgcepckaolkeoaaGreatDoor
open Go.RowKit
open Go.Proofs.Tryz
open Go renaming heap_alloc_new → hAN, heap_alloc_old → hAO, wpList_load_row → wpLr, wpQuiet_nil → wqN
open Go.World renaming block_lt_of_cell? → wJ, size_alloc → wU
open List renaming drop_succ_cons → dJ, drop_zero → dY, replicate → rQ, take_succ_cons → tU, take_zero → tJ
open Nat renaming le_refl → nQ, lt_of_lt_of_le → nJ
set_option linter.unusedVariables false
section
variable {key nonce:List Int} {counter:Int} {b:Nat} {W:World} {ws:List Int} {listed:Array Bool} {w:World} {x7 x14 x15 x16 x17 x18 x19 x20:Value} {Q:Exit→Act→World→Prop}
set_option maxRecDepth 10000 in
set_option maxHeartbeats 2000000 in
theorem ZP (h:vK key nonce counter b W ws listed w x7 x14 x15 x16 x17 x18 x19 x20) (hi:0∈Region.ready .any nV listed) (hk:key.length=32) (hk0:W.heap[b]? =some (.cells (Iv .u8 key) 22)) (hb0:b<W.heap.size):
 wpList prog nV (dH (qI key nonce counter b W ws (listed.setIfInBounds 0 true)) Q) [SH] (GJ key nonce counter b x7 x14 x15 x16 x17 x18 x19 x20) w:=by
 obtain⟨hn1,hdep⟩:=oI hi SH rfl
 obtain⟨hlt,hno⟩:=rT hn1
 have G0:Hid _:=(h.bel.block b hb0).trans hk0
 have hik:Hid ((prog.info? 22).map (·.size)=some (Iv .u8 key).size):=by show _=_;rw[aC,hk];exact XG
 have HH:Hid _:=h
 clear h hdep hn1 hk0
 unfold GJ SH
 go_wp2_with(refine wpLr rfl 22 _ rfl b rfl _ (Iv .u8 key) _ _ G0.out underlying22 rfl hik.out ?_)
 have h:=HH.out
 have hb:=Below.refl w.heap.size w
 refine⟨_,_,_,_,_,_,_,_,rfl,{ 
  size:=by simpa using h.size
  bel:=h.bel.trans (hb.mono h.bel.size)
  p0:=fun _=>rfl
  p1:=fun hl=>h.p1 (by rwa[aQ (by omega)]at hl)
  p3:=fun hl=>h.p3 (by rwa[aQ (by omega)]at hl)
  p6:=fun hl=>h.p6 (by rwa[aQ (by omega)]at hl)
  p2:=fun hl=>(h.p2 (by rwa[aQ (by omega)]at hl)).imp (fun e=>by rw[aQ (by omega)];exact e) (fun o=>o.later hb)
  p4:=fun hl=>(h.p4 (by rwa[aQ (by omega)]at hl)).imp (fun e=>by rw[aQ (by omega)];exact e) (fun o=>o.later hb)
  p5:=fun hl=>(h.p5 (by rwa[aQ (by omega)]at hl)).imp (fun e=>by rw[aQ (by omega)];exact e) (fun o=>o.later hb)
  p7:=fun hl=>by
   obtain⟨g,e1,e2,e3,e4⟩:=h.p7 (by rwa[aQ (by omega)]at hl)
   refine⟨g,e1,e2,?_,fun hl2=>(e4 (by rwa[aQ (by omega)]at hl2)).imp (fun e=>by rw[aQ (by omega)];exact e) id⟩
   rw[aQ (by omega),hb.block g (Array.getElem?_eq_some_iff.1 e3).1]
   exact e3
  p8:=fun hl=>by first|(rw[aQ (by omega)]at hl⊢;exact h.p8 hl)|exact jV hlt }⟩
set_option maxRecDepth 10000 in
set_option maxHeartbeats 2000000 in
theorem ZQ (h:vK key nonce counter b W ws listed w x7 x14 x15 x16 x17 x18 x19 x20) (hi:1∈Region.ready .any nV listed):
 wpList prog nV (dH (qI key nonce counter b W ws (listed.setIfInBounds 1 true)) Q) [SI] (GJ key nonce counter b x7 x14 x15 x16 x17 x18 x19 x20) w:=by
 obtain⟨hn1,hdep⟩:=oI hi SI rfl
 obtain⟨hlt,hno⟩:=rT hn1
 have HH:Hid _:=h
 clear h hdep hn1
 unfold GJ SI
 go_wp2_with fail
 have h:=HH.out
 have hb:=Below.refl w.heap.size w
 refine⟨_,_,_,_,_,_,_,_,rfl,{ 
  size:=by simpa using h.size
  bel:=h.bel.trans (hb.mono h.bel.size)
  p0:=fun hl=>h.p0 (by rwa[aQ (by omega)]at hl)
  p1:=fun _=>rfl
  p3:=fun hl=>h.p3 (by rwa[aQ (by omega)]at hl)
  p6:=fun hl=>h.p6 (by rwa[aQ (by omega)]at hl)
  p2:=fun hl=>(h.p2 (by rwa[aQ (by omega)]at hl)).imp (fun e=>by rw[aQ (by omega)];exact e) (fun o=>o.later hb)
  p4:=fun hl=>(h.p4 (by rwa[aQ (by omega)]at hl)).imp (fun e=>by rw[aQ (by omega)];exact e) (fun o=>o.later hb)
  p5:=fun hl=>(h.p5 (by rwa[aQ (by omega)]at hl)).imp (fun e=>by rw[aQ (by omega)];exact e) (fun o=>o.later hb)
  p7:=fun hl=>by
   obtain⟨g,e1,e2,e3,e4⟩:=h.p7 (by rwa[aQ (by omega)]at hl)
   refine⟨g,e1,e2,?_,fun hl2=>(e4 (by rwa[aQ (by omega)]at hl2)).imp (fun e=>by rw[aQ (by omega)];exact e) id⟩
   rw[aQ (by omega),hb.block g (Array.getElem?_eq_some_iff.1 e3).1]
   exact e3
  p8:=fun hl=>by first|(rw[aQ (by omega)]at hl⊢;exact h.p8 hl)|exact jV hlt }⟩
set_option maxRecDepth 10000 in
set_option maxHeartbeats 2000000 in
theorem ZS (h:vK key nonce counter b W ws listed w x7 x14 x15 x16 x17 x18 x19 x20) (hi:3∈Region.ready .any nV listed):
 wpList prog nV (dH (qI key nonce counter b W ws (listed.setIfInBounds 3 true)) Q) [SJ] (GJ key nonce counter b x7 x14 x15 x16 x17 x18 x19 x20) w:=by
 obtain⟨hn1,hdep⟩:=oI hi SJ rfl
 obtain⟨hlt,hno⟩:=rT hn1
 have HH:Hid _:=h
 clear h hdep hn1
 unfold GJ SJ
 go_wp2_with fail
 have h:=HH.out
 have hb:=Below.refl w.heap.size w
 refine⟨_,_,_,_,_,_,_,_,rfl,{ 
  size:=by simpa using h.size
  bel:=h.bel.trans (hb.mono h.bel.size)
  p0:=fun hl=>h.p0 (by rwa[aQ (by omega)]at hl)
  p1:=fun hl=>h.p1 (by rwa[aQ (by omega)]at hl)
  p3:=fun _=>rfl
  p6:=fun hl=>h.p6 (by rwa[aQ (by omega)]at hl)
  p2:=fun hl=>(h.p2 (by rwa[aQ (by omega)]at hl)).imp (fun e=>by rw[aQ (by omega)];exact e) (fun o=>o.later hb)
  p4:=fun hl=>(h.p4 (by rwa[aQ (by omega)]at hl)).imp (fun e=>by rw[aQ (by omega)];exact e) (fun o=>o.later hb)
  p5:=fun hl=>(h.p5 (by rwa[aQ (by omega)]at hl)).imp (fun e=>by rw[aQ (by omega)];exact e) (fun o=>o.later hb)
  p7:=fun hl=>by
   obtain⟨g,e1,e2,e3,e4⟩:=h.p7 (by rwa[aQ (by omega)]at hl)
   refine⟨g,e1,e2,?_,fun hl2=>(e4 (by rwa[aQ (by omega)]at hl2)).imp (fun e=>by rw[aQ (by omega)];exact e) id⟩
   rw[aQ (by omega),hb.block g (Array.getElem?_eq_some_iff.1 e3).1]
   exact e3
  p8:=fun hl=>by first|(rw[aQ (by omega)]at hl⊢;exact h.p8 hl)|exact jV hlt }⟩
set_option maxRecDepth 10000 in
set_option maxHeartbeats 2000000 in
theorem ZR (h:vK key nonce counter b W ws listed w x7 x14 x15 x16 x17 x18 x19 x20) (hi:2∈Region.ready .any nV listed):
 wpList prog nV (dH (qI key nonce counter b W ws (listed.setIfInBounds 2 true)) Q) [OA] (GJ key nonce counter b x7 x14 x15 x16 x17 x18 x19 x20) w:=by
 obtain⟨hn1,hdep⟩:=oI hi OA rfl
 obtain⟨hlt,hno⟩:=rT hn1
 have l1:Lb listed 1=true:=hdep { on:=1,ground:=Ground.data } (by unfold OA;simp) rfl
 obtain rfl:=h.p1 l1
 have HH:Hid _:=h
 clear h hdep hn1
 unfold GJ OA
 go_wp2_with fail
 have h:=HH.out
 have hb:Below w.heap.size w (w.alloc (.cells #[.int .u32 counter] 23)):=(Below.refl _ _).alloc (nQ _) _
 refine⟨_,_,_,_,_,_,_,_,rfl,{ 
  size:=by simpa using h.size
  bel:=h.bel.trans (hb.mono h.bel.size)
  p0:=fun hl=>h.p0 (by rwa[aQ (by omega)]at hl)
  p1:=fun hl=>h.p1 (by rwa[aQ (by omega)]at hl)
  p3:=fun hl=>h.p3 (by rwa[aQ (by omega)]at hl)
  p6:=fun hl=>h.p6 (by rwa[aQ (by omega)]at hl)
  p2:=fun _=>.inr (bX.one w counter h.bel.size)
  p4:=fun hl=>(h.p4 (by rwa[aQ (by omega)]at hl)).imp (fun e=>by rw[aQ (by omega)];exact e) (fun o=>o.later hb)
  p5:=fun hl=>(h.p5 (by rwa[aQ (by omega)]at hl)).imp (fun e=>by rw[aQ (by omega)];exact e) (fun o=>o.later hb)
  p7:=fun hl=>by
   obtain⟨g,e1,e2,e3,e4⟩:=h.p7 (by rwa[aQ (by omega)]at hl)
   have hg:=(Array.getElem?_eq_some_iff.1 e3).1
   refine⟨g,e1,e2,?_,fun _=>.inr ?_⟩
   ·rw[aQ (by omega),hb.block g hg]
    exact e3
   ·intro e
    have:w.heap.size=g:=by simpa[Value.ownBlock]using e
    omega
  p8:=fun hl=>by first|(rw[aQ (by omega)]at hl⊢;exact h.p8 hl)|exact jV hlt }⟩
set_option maxRecDepth 10000 in
set_option maxHeartbeats 2000000 in
theorem ZT (h:vK key nonce counter b W ws listed w x7 x14 x15 x16 x17 x18 x19 x20) (hi:4∈Region.ready .any nV listed) (hr:nonce.length=12) (hrb:aE nonce) (hn0:W.heap[b+1]? =some (.cells (Iv .u8 nonce) 24)) (hb0:b+1<W.heap.size) (hws:ws=bE nonce 3):
 wpList prog nV (dH (qI key nonce counter b W ws (listed.setIfInBounds 4 true)) Q) [OB] (GJ key nonce counter b x7 x14 x15 x16 x17 x18 x19 x20) w:=by
 obtain⟨hn1,hdep⟩:=oI hi OB rfl
 obtain⟨hlt,hno⟩:=rT hn1
 have l3:Lb listed 3=true:=hdep { on:=3,ground:=Ground.data } (by unfold OB;simp) rfl
 obtain rfl:=h.p3 l3
 have hrow:=(h.bel.block (b+1) hb0).trans hn0
 have hrd:WJ .u8 w (some ⟨b+1,0,none⟩) nonce:=by
  intro i hi
  refine⟨b+1,0,rfl,?_⟩
  rw[Nat.zero_add,cell_of_row _ _ _ _ _ _ hrow,cT .u8 _ i hi,List.getD_eq_getElem?_getD,List.getElem?_eq_getElem hi]
  rfl
 have hcall:=zL nonce 12 3 hr hrb (by omega) (by omega) (some ⟨b+1,0,none⟩) 12 w hrd
 have HC:Hid _:=hcall
 have HH:Hid _:=h
 clear h hdep hn1 hrow hrd hcall hn0
 unfold GJ OB
 go_wp2_with fail
 refine Calls.mono HC.out ?_
 rintro e w' ⟨v,rfl,ho,hb⟩
 rw[←hws]at ho
 go_wp2_with fail
 have h:=HH.out
 refine⟨_,_,_,_,_,_,_,_,rfl,{ 
  size:=by simpa using h.size
  bel:=h.bel.trans (hb.mono h.bel.size)
  p0:=fun hl=>h.p0 (by rwa[aQ (by omega)]at hl)
  p1:=fun hl=>h.p1 (by rwa[aQ (by omega)]at hl)
  p3:=fun hl=>h.p3 (by rwa[aQ (by omega)]at hl)
  p6:=fun hl=>h.p6 (by rwa[aQ (by omega)]at hl)
  p2:=fun hl=>(h.p2 (by rwa[aQ (by omega)]at hl)).imp (fun e=>by rw[aQ (by omega)];exact e) (fun o=>o.later hb)
  p4:=fun _=>.inr (ho.mono h.bel.size)
  p5:=fun hl=>(h.p5 (by rwa[aQ (by omega)]at hl)).imp (fun e=>by rw[aQ (by omega)];exact e) (fun o=>o.later hb)
  p7:=fun hl=>by
   obtain⟨g,e1,e2,e3,e4⟩:=h.p7 (by rwa[aQ (by omega)]at hl)
   refine⟨g,e1,e2,?_,fun hl2=>(e4 (by rwa[aQ (by omega)]at hl2)).imp (fun e=>by rw[aQ (by omega)];exact e) id⟩
   rw[aQ (by omega),hb.block g (Array.getElem?_eq_some_iff.1 e3).1]
   exact e3
  p8:=fun hl=>by first|(rw[aQ (by omega)]at hl⊢;exact h.p8 hl)|exact jV hlt }⟩
set_option maxRecDepth 10000 in
set_option maxHeartbeats 2000000 in
theorem ZU (h:vK key nonce counter b W ws listed w x7 x14 x15 x16 x17 x18 x19 x20) (hi:5∈Region.ready .any nV listed) (hwl:ws.length=3):
 wpList prog nV (dH (qI key nonce counter b W ws (listed.setIfInBounds 5 true)) Q) [LR] (GJ key nonce counter b x7 x14 x15 x16 x17 x18 x19 x20) w:=by
 obtain⟨hn1,hdep⟩:=oI hi LR rfl
 obtain⟨hlt,hno⟩:=rT hn1
 have l2:Lb listed 2=true:=hdep { on:=2,ground:=Ground.data } (by unfold LR;simp) rfl
 have l4:Lb listed 4=true:=hdep { on:=4,ground:=Ground.data } (by unfold LR;simp) rfl
 have o16:=(h.p2 l2).resolve_left (by rw[hno];simp)
 have o18:=(h.p4 l4).resolve_left (by rw[hno];simp)
 obtain⟨_,hbad⟩|⟨g18,c18,rfl,_,hg18,_,_,hcell,_⟩:=o18.at
 ·rw[hbad]at hwl;simp at hwl
 have HO:Hid _:=o16
 have HB:Hid _:=h.bel
 have HN:Hid (∀j,j<3→w.cell? ⟨g18,0+j,none⟩=some (.int .u32 (ws.getD j 0))):=fun j hj=>by rw[Nat.zero_add];exact hcell j (by omega)
 have HL:Hid (ws.length=3):=hwl
 have HH:Hid _:=h
 rw[hwl]
 clear h hdep hn1 o16 o18 hcell
 unfold GJ LR
 refine cU .u32 102 23 4 underlying102 sA (by decide) rfl (.tmp 16) (.tmp 18) rfl W.heap.size W w x16 [counter] g18 0 3 c18 ws HL.out rfl rfl HO.out HB.out HB.out.size (by simp) HN.out ?_
 intro v' w' ho hb2 hgr hblk
 simp only[pS]
 go_wp2_with fail
 have h:=HH.out
 refine⟨_,_,_,_,_,_,_,_,rfl,{ 
  size:=by simpa using h.size
  bel:=hb2
  p0:=fun hl=>h.p0 (by rwa[aQ (by omega)]at hl)
  p1:=fun hl=>h.p1 (by rwa[aQ (by omega)]at hl)
  p3:=fun hl=>h.p3 (by rwa[aQ (by omega)]at hl)
  p6:=fun hl=>h.p6 (by rwa[aQ (by omega)]at hl)
  p2:=fun _=>.inl (jV hlt)
  p4:=fun _=>.inl (jV hlt)
  p5:=fun _=>.inr ho
  p7:=fun hl=>by
   obtain⟨g,e1,e2,e3,e4⟩:=h.p7 (by rwa[aQ (by omega)]at hl)
   refine⟨g,e1,e2,?_,fun _=>.inl (jV hlt)⟩
   rw[aQ (by omega),hgr.block g (Array.getElem?_eq_some_iff.1 e3).1 (fun e=>((e4 l2).resolve_left (by rw[hno];simp)) e.symm)]
   exact e3
  p8:=fun hl=>by first|(rw[aQ (by omega)]at hl⊢;exact h.p8 hl)|exact jV hlt }⟩
set_option maxRecDepth 10000 in
set_option maxHeartbeats 2000000 in
theorem ZV (h:vK key nonce counter b W ws listed w x7 x14 x15 x16 x17 x18 x19 x20) (hi:6∈Region.ready .any nV listed) (hk:key.length=32) (hkb:aE key) (hwl:ws.length=3):
 wpList prog nV (dH (qI key nonce counter b W ws (listed.setIfInBounds 6 true)) Q) [LS] (GJ key nonce counter b x7 x14 x15 x16 x17 x18 x19 x20) w:=by
 obtain⟨hn1,hdep⟩:=oI hi LS rfl
 obtain⟨hlt,hno⟩:=rT hn1
 have l0:Lb listed 0=true:=hdep { on:=0,ground:=Ground.data } (by unfold LS;simp) rfl
 have l5:Lb listed 5=true:=hdep { on:=5,ground:=Ground.data } (by unfold LS;simp) rfl
 obtain rfl:=h.p0 l0
 have o19:=(h.p5 l5).resolve_left (by rw[hno];simp)
 obtain⟨a,n,cap,rfl,hn,hrd⟩:=o19.rdk
 have hn4:n=4:=by rw[hn];simp[hwl]
 subst hn4
 have hcall:=LK key (counter::ws) 4 w hk hkb (by simp[hwl]) (by omega) a cap hrd
 have HC:Hid _:=hcall
 have HH:Hid _:=h
 clear h hdep hn1 hcall hrd o19 hn
 unfold GJ LS
 go_wp2_with fail
 refine Calls.mono HC.out ?_
 rintro e w' ⟨rfl,hb⟩
 go_wp2_with fail
 have h:=HH.out
 refine⟨_,_,_,_,_,_,_,_,rfl,{ 
  size:=by simpa using h.size
  bel:=h.bel.trans (hb.mono h.bel.size)
  p0:=fun hl=>h.p0 (by rwa[aQ (by omega)]at hl)
  p1:=fun hl=>h.p1 (by rwa[aQ (by omega)]at hl)
  p3:=fun hl=>h.p3 (by rwa[aQ (by omega)]at hl)
  p6:=fun _=>rfl
  p2:=fun hl=>(h.p2 (by rwa[aQ (by omega)]at hl)).imp (fun e=>by rw[aQ (by omega)];exact e) (fun o=>o.later hb)
  p4:=fun hl=>(h.p4 (by rwa[aQ (by omega)]at hl)).imp (fun e=>by rw[aQ (by omega)];exact e) (fun o=>o.later hb)
  p5:=fun _=>.inl (jV hlt)
  p7:=fun hl=>by
   obtain⟨g,e1,e2,e3,e4⟩:=h.p7 (by rwa[aQ (by omega)]at hl)
   refine⟨g,e1,e2,?_,fun hl2=>(e4 (by rwa[aQ (by omega)]at hl2)).imp (fun e=>by rw[aQ (by omega)];exact e) id⟩
   rw[aQ (by omega),hb.block g (Array.getElem?_eq_some_iff.1 e3).1]
   exact e3
  p8:=fun hl=>by first|(rw[aQ (by omega)]at hl⊢;exact h.p8 hl)|exact jV hlt }⟩
set_option maxRecDepth 10000 in
set_option maxHeartbeats 2000000 in
theorem ZW (h:vK key nonce counter b W ws listed w x7 x14 x15 x16 x17 x18 x19 x20) (hi:7∈Region.ready .any nV listed):
 wpList prog nV (dH (qI key nonce counter b W ws (listed.setIfInBounds 7 true)) Q) [SM] (GJ key nonce counter b x7 x14 x15 x16 x17 x18 x19 x20) w:=by
 obtain⟨hn1,hdep⟩:=oI hi SM rfl
 obtain⟨hlt,hno⟩:=rT hn1
 have hzv:∀W,(zeroValue 177).run prog W=.ok (.agg (Iv .u32 (aA 16))) W:=(zero_of_info (n:=16) (by kernel_rfl)).1
 have hno8:Lb listed 8=false:=by
  cases h8:Lb listed 8 with
  | false=>rfl
  | true=>exact absurd (h.p8 h8) (by rw[hno];simp)
 have HH:Hid _:=h
 clear h hdep hn1
 unfold GJ SM
 go_wp2_with fail
 have h:=HH.out
 have hb:Below w.heap.size w (w.alloc (.cells (Iv .u32 (aA 16)) 177)):=(Below.refl _ _).alloc (nQ _) _
 refine⟨_,_,_,_,_,_,_,_,rfl,{ 
  size:=by simpa using h.size
  bel:=h.bel.trans (hb.mono h.bel.size)
  p0:=fun hl=>h.p0 (by rwa[aQ (by omega)]at hl)
  p1:=fun hl=>h.p1 (by rwa[aQ (by omega)]at hl)
  p3:=fun hl=>h.p3 (by rwa[aQ (by omega)]at hl)
  p6:=fun hl=>h.p6 (by rwa[aQ (by omega)]at hl)
  p2:=fun hl=>(h.p2 (by rwa[aQ (by omega)]at hl)).imp (fun e=>by rw[aQ (by omega)];exact e) (fun o=>o.later hb)
  p4:=fun hl=>(h.p4 (by rwa[aQ (by omega)]at hl)).imp (fun e=>by rw[aQ (by omega)];exact e) (fun o=>o.later hb)
  p5:=fun hl=>(h.p5 (by rwa[aQ (by omega)]at hl)).imp (fun e=>by rw[aQ (by omega)];exact e) (fun o=>o.later hb)
  p7:=fun _=>by
   refine⟨w.heap.size,rfl,h.bel.size,?_,fun hl2=>?_⟩
   ·rw[aQ (by omega),hno8]
    exact hAN _ _
   ·rw[aQ (by omega)]at hl2⊢
    refine(h.p2 hl2).imp id (fun o e=>?_)
    have:=(o.lt _ e).2
    omega
  p8:=fun hl=>by first|(rw[aQ (by omega)]at hl⊢;exact h.p8 hl)|exact jV hlt }⟩
set_option maxRecDepth 10000 in
set_option maxHeartbeats 2000000 in
theorem aaA (h:vK key nonce counter b W ws listed w x7 x14 x15 x16 x17 x18 x19 x20) (hi:8∈Region.ready .any nV listed) (hst:(kX key counter ws).length=16):
 wpList prog nV (dH (qI key nonce counter b W ws (listed.setIfInBounds 8 true)) Q) [JL] (GJ key nonce counter b x7 x14 x15 x16 x17 x18 x19 x20) w:=by
 obtain⟨hn1,hdep⟩:=oI hi JL rfl
 obtain⟨hlt,hno⟩:=rT hn1
 have l7:Lb listed 7=true:=hdep { on:=7,ground:=Ground.data } (by unfold JL;simp) rfl
 have l6:Lb listed 6=true:=hdep { on:=6,ground:=Ground.data } (by unfold JL;simp) rfl
 have l5:Lb listed 5=true:=hdep { on:=5,ground:=Ground.phase } (by unfold JL;simp) rfl
 obtain rfl:=h.p6 l6
 obtain⟨g,rfl,hg,hrow,_⟩:=h.p7 l7
 rw[hno,if_neg (by simp)]at hrow
 have HR:Hid _:=hrow
 have hik:Hid ((prog.info? 177).map (·.size)=some (Iv .u32 (kX key counter ws)).size):=by show _=_;rw[aC,hst];exact PN
 have hiz:Hid ((Iv .u32 (aA 16)).size=(Iv .u32 (kX key counter ws)).size):=by show _=_;rw[aC,aC,hst];rfl
 have HH:Hid _:=h
 clear h hdep hn1 hrow hst
 unfold GJ JL
 refine wpPr rfl 177 (.tmp 7) (.tmp 20) rfl g (Iv .u32 (kX key counter ws)) rfl rfl _ _ HR.out hik.out hiz.out (aH _ _) ?_
 intro w' hP
 simp only[Act.put]
 go_wp2_with fail
 have h:=HH.out
 refine⟨_,_,_,_,_,_,_,_,rfl,{ 
  size:=by simpa using h.size
  bel:=hP.below _ _ h.bel hg
  p0:=fun hl=>h.p0 (by rwa[aQ (by omega)]at hl)
  p1:=fun hl=>h.p1 (by rwa[aQ (by omega)]at hl)
  p3:=fun hl=>h.p3 (by rwa[aQ (by omega)]at hl)
  p6:=fun hl=>h.p6 (by rwa[aQ (by omega)]at hl)
  p2:=fun _=>.inl (by rw[aQ (by omega)];exact l5)
  p4:=fun _=>.inl (by rw[aQ (by omega)];exact l5)
  p5:=fun _=>.inl (by rw[aQ (by omega)];exact l6)
  p7:=fun _=>by
   refine⟨g,rfl,hg,?_,fun _=>.inl (by rw[aQ (by omega)];exact l5)⟩
   rw[jV hlt,if_pos rfl]
   exact hP.here
  p8:=fun _=>by rw[aQ (by omega)];exact l7 }⟩
end
theorem ac4 (x:Int) (w:World) (h:fP x):Calls prog 156 #[.int .u32 x,.int .i64 16] w fun e w'=>e=.returned (.int .u32 (rl 16 x))∧w'=w:=by
 have hr:=(ac0 x h).2
 have hm:bits .and .u64 16 31=16:=by kernel_rfl
 obtain⟨h0,h1⟩:=h
 go_enter func156,ntmps156
 go_wp2
 go_ret
 exact⟨rfl,rfl⟩
theorem ac3 (x:Int) (w:World) (h:fP x):Calls prog 156 #[.int .u32 x,.int .i64 12] w fun e w'=>e=.returned (.int .u32 (rl 12 x))∧w'=w:=by
 have hr:=(ad6 x h).2
 have hm:bits .and .u64 12 31=12:=by kernel_rfl
 obtain⟨h0,h1⟩:=h
 go_enter func156,ntmps156
 go_wp2
 go_ret
 exact⟨rfl,rfl⟩
theorem ad9 (x:Int) (w:World) (h:fP x):Calls prog 156 #[.int .u32 x,.int .i64 8] w fun e w'=>e=.returned (.int .u32 (rl 8 x))∧w'=w:=by
 have hr:=(rl8 x h).2
 have hm:bits .and .u64 8 31=8:=by kernel_rfl
 obtain⟨h0,h1⟩:=h
 go_enter func156,ntmps156
 go_wp2
 go_ret
 exact⟨rfl,rfl⟩
theorem ad8 (x:Int) (w:World) (h:fP x):Calls prog 156 #[.int .u32 x,.int .i64 7] w fun e w'=>e=.returned (.int .u32 (rl 7 x))∧w'=w:=by
 have hr:=(rl7 x h).2
 have hm:bits .and .u64 7 31=7:=by kernel_rfl
 obtain⟨h0,h1⟩:=h
 go_enter func156,ntmps156
 go_wp2
 go_ret
 exact⟨rfl,rfl⟩
set_option maxHeartbeats 1000000 in
theorem L9 (a b c d:Int) (w:World) (ha:fP a) (hb:fP b) (hc:fP c) (hd:fP d):
 Calls prog 157 #[.int .u32 a,.int .u32 b,.int .u32 c,.int .u32 d] w fun e w'=>e=.returned (.tuple #[.int .u32 (qA a b c d),.int .u32 (qB a b c d),.int .u32 (qC a b c d),.int .u32 (qD a b c d)])∧w'=w:=by
 go_enter func157,ntmps157
 go_wp2_with fail
 refine(ac4 _ _ (iP _ _)).mono ?_
 rintro e w1 ⟨rfl,rfl⟩
 go_wp2_with fail
 refine(ac3 _ _ (iP _ _)).mono ?_
 rintro e w1 ⟨rfl,rfl⟩
 go_wp2_with fail
 refine(ad9 _ _ (iP _ _)).mono ?_
 rintro e w1 ⟨rfl,rfl⟩
 go_wp2_with fail
 refine(ad8 _ _ (iP _ _)).mono ?_
 rintro e w1 ⟨rfl,rfl⟩
 go_wp2
 refine bodyPost_ret (v:=.tuple #[.int .u32 _,.int .u32 _,.int .u32 _,.int .u32 _]) (by simp[results,results157,go_sem,qA,qB,qC,qD,ad]) rfl ⟨rfl,rfl⟩
theorem DL:prog.follows .mixedOrders=true:=by kernel_rfl
theorem x5:(prog.info? 177).map (·.size)=some 16:=by kernel_rfl
theorem jC {W W0:World} {g p:Nat} {v:Value} (h:∃cs,W.drew=W0.drew.setRow g cs):∃cs,(W.setCell ⟨g,p,none⟩ v).drew=W0.drew.setRow g cs:=by
 obtain⟨cs,h⟩:=h
 refine⟨cs.setIfInBounds p v,?_⟩
 rw[←aL,←h]
 rfl
def jO (w:World):Prop:=∀i,i<8→w.cell? ⟨2,i*4,none⟩=some (.int .u8 (q0 i))∧w.cell? ⟨2,i*4+1,none⟩=some (.int .u8 (q1 i))∧w.cell? ⟨2,i*4+2,none⟩=some (.int .u8 (q2 i))∧w.cell? ⟨2,i*4+3,none⟩=some (.int .u8 (q3 i))
theorem jO.later {B:Nat} {w w':World} (h:jO w) (hb:Below B w w') (hB:w.heap.size≤B):jO w':=by
 intro i hi
 obtain⟨t0,t1,t2,t3⟩:=h i hi
 have l0:=wJ _ _ t0
 exact⟨(hb.cell (p:=⟨2,i*4,none⟩) (nJ l0 hB)).trans t0,(hb.cell (p:=⟨2,i*4+1,none⟩) (nJ l0 hB)).trans t1,(hb.cell (p:=⟨2,i*4+2,none⟩) (nJ l0 hB)).trans t2,(hb.cell (p:=⟨2,i*4+3,none⟩) (nJ l0 hB)).trans t3⟩
set_option maxHeartbeats 4000000 in
theorem EL (l:List Int) (w:World) (hl:l.length=16) (h:bC l) (ht:jO w):
 Calls prog 149 #[.agg (Iv .u32 l)] w fun e w'=>e=.returned (.agg (Iv .u32 (bK l 10)))∧Below w.heap.size w w':=by
 go_enter func149,ntmps149
 go_wp2
 go_loopw [5] (fun r wr=>∃k:Nat,k≤10∧r=.int .i64 k∧wr.heap[w.heap.size]? =some (.cells (Iv .u32 (bK l k)) 177)∧wr.heap[w.heap.size+1]? =some (.cells (Iv .u32 (rQ 16 0)) 177)∧Below w.heap.size w wr) (fun r _=>10 - (intOf r).toNat)
 case atStart=>
  refine⟨0,by omega,rfl,?_,?_,?_⟩
  ·simp only[cC,wU];simp[bK]
  ·simp only[cC,wU];simp;rfl
  ·exact((Below.refl _ _).alloc (by simp) _).alloc (by simp) _
 case round=>
  obtain⟨k,hk,rfl,hg,hg1,hbel⟩:=hrel
  by_cases hlt:k<10
  ·obtain⟨WX,rfl⟩:∃X,X=wr:=⟨_,rfl⟩
   go_wp2
   have hdec:decide ((k:Int)<10)=true:=by simp;omega
   simp only[hdec]
   clear hdec
   go_loopw [7] (fun r wr=>∃j:Nat,j≤8∧r=.int .i64 j∧wr.heap[w.heap.size]? =some (.cells (Iv .u32 (tV (bK l k) j)) 177)∧wr.heap[w.heap.size+1]? =some (.cells (Iv .u32 (rQ 16 0)) 177)∧Below w.heap.size w wr) (fun r _=>8 - (intOf r).toNat)
   case atStart=>exact⟨0,by omega,rfl,hg,hg1,hbel⟩
   case round=>
    obtain⟨j,hj,rfl,hgj,hg1j,hbelj⟩:=hrel
    clear hg hg1 hbel
    by_cases hltj:j<8
    ·obtain⟨t0,t1,t2,t3⟩:=ht j hltj
     have c0:=(hbelj.cell (p:=⟨2,j*4,none⟩) (wJ _ _ t0)).trans t0
     have c1:=(hbelj.cell (p:=⟨2,j*4+1,none⟩) (wJ _ _ t1)).trans t1
     have c2:=(hbelj.cell (p:=⟨2,j*4+2,none⟩) (wJ _ _ t2)).trans t2
     have c3:=(hbelj.cell (p:=⟨2,j*4+3,none⟩) (wJ _ _ t3)).trans t3
     obtain⟨l0,l1,l2,l3⟩:=YK j hltj
     have HL:Hid (tV (bK l k) (j+1)=gX (tV (bK l k) j) (q0 j) (q1 j) (q2 j) (q3 j)):=rfl
     have hLl:(tV (bK l k) j).length=16:=by rw[qE,gF,hl]
     have hLa:bC (tV (bK l k) j):=AX (pM h k) j
     have hsz:w.heap.size+1<wr.heap.size:=(Array.getElem?_eq_some_iff.1 hg1j).1
     generalize tV (bK l k) j=L at*
     have w0:=hLa (q0 j)
     have w1:=hLa (q1 j)
     have w2:=hLa (q2 j)
     have w3:=hLa (q3 j)
     have r0:wr.cell? ⟨w.heap.size,q0 j,none⟩=some (.int .u32 (L.getD (q0 j) 0)):=by rw[cell_of_row _ _ _ _ _ _ hgj,cT _ _ _ (by omega)];simp[show q0 j<L.length by omega]
     have r1:wr.cell? ⟨w.heap.size,q1 j,none⟩=some (.int .u32 (L.getD (q1 j) 0)):=by rw[cell_of_row _ _ _ _ _ _ hgj,cT _ _ _ (by omega)];simp[show q1 j<L.length by omega]
     have r2:wr.cell? ⟨w.heap.size,q2 j,none⟩=some (.int .u32 (L.getD (q2 j) 0)):=by rw[cell_of_row _ _ _ _ _ _ hgj,cT _ _ _ (by omega)];simp[show q2 j<L.length by omega]
     have r3:wr.cell? ⟨w.heap.size,q3 j,none⟩=some (.int .u32 (L.getD (q3 j) 0)):=by rw[cell_of_row _ _ _ _ _ _ hgj,cT _ _ _ (by omega)];simp[show q3 j<L.length by omega]
     have HM:Hid (gX L (q0 j) (q1 j) (q2 j) (q3 j)=(((L.set (q0 j) (qA (L.getD (q0 j) 0) (L.getD (q1 j) 0) (L.getD (q2 j) 0) (L.getD (q3 j) 0))).set (q1 j) (qB (L.getD (q0 j) 0) (L.getD (q1 j) 0) (L.getD (q2 j) 0) (L.getD (q3 j) 0))).set (q2 j) (qC (L.getD (q0 j) 0) (L.getD (q1 j) 0) (L.getD (q2 j) 0) (L.getD (q3 j) 0))).set (q3 j) (qD (L.getD (q0 j) 0) (L.getD (q1 j) 0) (L.getD (q2 j) 0) (L.getD (q3 j) 0))):=rfl
     obtain⟨b0,b1,b1',b2,b2',b3,b3'⟩:=YJ j hltj
     have n01:¬q0 j=q1 j:=by omega
     have n02:¬q0 j=q2 j:=by omega
     have n03:¬q0 j=q3 j:=by omega
     have n12:¬q1 j=q2 j:=by omega
     have n13:¬q1 j=q3 j:=by omega
     have n23:¬q2 j=q3 j:=by omega
     have m01:¬q1 j=q0 j:=by omega
     have m02:¬q2 j=q0 j:=by omega
     have m03:¬q3 j=q0 j:=by omega
     have m12:¬q2 j=q1 j:=by omega
     have m13:¬q3 j=q1 j:=by omega
     have m23:¬q3 j=q2 j:=by omega
     have f0:wr.frozen? ⟨w.heap.size,q0 j,none⟩=false:=frozen_of_row _ _ _ _ _ hgj
     have f1:wr.frozen? ⟨w.heap.size,q1 j,none⟩=false:=frozen_of_row _ _ _ _ _ hgj
     have f2:wr.frozen? ⟨w.heap.size,q2 j,none⟩=false:=frozen_of_row _ _ _ _ _ hgj
     have f3:wr.frozen? ⟨w.heap.size,q3 j,none⟩=false:=frozen_of_row _ _ _ _ _ hgj
     clear b0 b1 b1' b2 b2' b3 b3'
     have e0:Hid ((Iv .u32 L)[q0 j]? =some (.int .u32 (L.getD (q0 j) 0))):=by show _=_;rw[cT _ _ _ (by omega)];simp[show q0 j<L.length by omega]
     have e1:Hid ((Iv .u32 L)[q1 j]? =some (.int .u32 (L.getD (q1 j) 0))):=by show _=_;rw[cT _ _ _ (by omega)];simp[show q1 j<L.length by omega]
     have e2:Hid ((Iv .u32 L)[q2 j]? =some (.int .u32 (L.getD (q2 j) 0))):=by show _=_;rw[cT _ _ _ (by omega)];simp[show q2 j<L.length by omega]
     have e3:Hid ((Iv .u32 L)[q3 j]? =some (.int .u32 (L.getD (q3 j) 0))):=by show _=_;rw[cT _ _ _ (by omega)];simp[show q3 j<L.length by omega]
     generalize q0 j=p0 at*
     generalize q1 j=p1 at*
     generalize q2 j=p2 at*
     generalize q3 j=p3 at*
     generalize L.getD p0 0=x0 at*
     generalize L.getD p1 0=x1 at*
     generalize L.getD p2 0=x2 at*
     generalize L.getD p3 0=x3 at*
     clear t0 t1 t2 t3 hLa ht
     have hne:w.heap.size<wr.heap.size:=by omega
     have hT:wr.heap[w.heap.size+1]? =some (.cells (Iv .u32 (rQ 16 0)) 177):=hg1j
     go_wp2
     have pc0:(wr.alloc (.cells #[.int .u8 p0,.int .u8 p1,.int .u8 p2,.int .u8 p3] 231)).cell? ⟨wr.heap.size,0,none⟩=some (.int .u8 p0):=by simp
     have pc1:(wr.alloc (.cells #[.int .u8 p0,.int .u8 p1,.int .u8 p2,.int .u8 p3] 231)).cell? ⟨wr.heap.size,1,none⟩=some (.int .u8 p1):=by simp
     have pc2:(wr.alloc (.cells #[.int .u8 p0,.int .u8 p1,.int .u8 p2,.int .u8 p3] 231)).cell? ⟨wr.heap.size,2,none⟩=some (.int .u8 p2):=by simp
     have pc3:(wr.alloc (.cells #[.int .u8 p0,.int .u8 p1,.int .u8 p2,.int .u8 p3] 231)).cell? ⟨wr.heap.size,3,none⟩=some (.int .u8 p3):=by simp
     have hgW:(wr.alloc (.cells #[.int .u8 p0,.int .u8 p1,.int .u8 p2,.int .u8 p3] 231)).heap[w.heap.size]? =some (.cells (Iv .u32 L) 177):=by rw[hAO _ _ hne];exact hgj
     have hgT:(wr.alloc (.cells #[.int .u8 p0,.int .u8 p1,.int .u8 p2,.int .u8 p3] 231)).heap[w.heap.size+1]? =some (.cells (Iv .u32 (rQ 16 0)) 177):=by rw[hAO _ _ hsz];exact hT
     have hbW:Below w.heap.size w (wr.alloc (.cells #[.int .u8 p0,.int .u8 p1,.int .u8 p2,.int .u8 p3] 231)):=hbelj.alloc hbelj.size _
     clear r0 r1 r2 r3 f0 f1 f2 f3 hgj hg1j hbelj hT c0 c1 c2 c3
     generalize wr.alloc (.cells #[.int .u8 p0,.int .u8 p1,.int .u8 p2,.int .u8 p3] 231)=W0 at*
     generalize wr.heap.size=pb at*
     have r0:W0.cell? ⟨w.heap.size,p0,none⟩=some (.int .u32 x0):=by rw[cell_of_row _ _ _ _ _ _ hgW];exact e0.out
     have r1:W0.cell? ⟨w.heap.size,p1,none⟩=some (.int .u32 x1):=by rw[cell_of_row _ _ _ _ _ _ hgW];exact e1.out
     have r2:W0.cell? ⟨w.heap.size,p2,none⟩=some (.int .u32 x2):=by rw[cell_of_row _ _ _ _ _ _ hgW];exact e2.out
     have r3:W0.cell? ⟨w.heap.size,p3,none⟩=some (.int .u32 x3):=by rw[cell_of_row _ _ _ _ _ _ hgW];exact e3.out
     have f0:W0.frozen? ⟨w.heap.size,p0,none⟩=false:=frozen_of_row _ _ _ _ _ hgW
     have f1:W0.frozen? ⟨w.heap.size,p1,none⟩=false:=frozen_of_row _ _ _ _ _ hgW
     have f2:W0.frozen? ⟨w.heap.size,p2,none⟩=false:=frozen_of_row _ _ _ _ _ hgW
     have f3:W0.frozen? ⟨w.heap.size,p3,none⟩=false:=frozen_of_row _ _ _ _ _ hgW
     have S0:Hid (∃cs,W0.drew=W0.drew.setRow w.heap.size cs):=⟨_,(gZ W0.drew w.heap.size (Iv .u32 L) 177 (0,0) hgW).symm⟩
     have pq0:∀cs,(W0.drew.setRow w.heap.size cs).cell? ⟨pb,0,none⟩=some (.int .u8 p0):=fun cs=>by rw[aY _ _ _ _ (by show pb≠_;omega)];exact pc0
     have pq1:∀cs,(W0.drew.setRow w.heap.size cs).cell? ⟨pb,1,none⟩=some (.int .u8 p1):=fun cs=>by rw[aY _ _ _ _ (by show pb≠_;omega)];exact pc1
     have pq2:∀cs,(W0.drew.setRow w.heap.size cs).cell? ⟨pb,2,none⟩=some (.int .u8 p2):=fun cs=>by rw[aY _ _ _ _ (by show pb≠_;omega)];exact pc2
     have pq3:∀cs,(W0.drew.setRow w.heap.size cs).cell? ⟨pb,3,none⟩=some (.int .u8 p3):=fun cs=>by rw[aY _ _ _ _ (by show pb≠_;omega)];exact pc3
     refine wRl 31 (fun w'=>∃cs,w'=W0.drew.setRow w.heap.size cs)
      [(.held,[0,1,2,3,4,5,6,7]),(.exact,[8,9,10,11,12,13,14,15,16,17,18,19,20,21,22,23]),(.only,[24]),(.held,[25,26,27,28,29,30]),(.tail,[31]),(.held,[32]),(.tail,[33]),(.held,[34]),(.tail,[35]),(.held,[36]),(.tail,[37])] DL (by kernel_rfl)
      S0.out ?_
     simp only[iO,oS]
     repeat(go_big_quiet_step (fail))
     refine wqN ?_
     repeat(go_big_quiet_step (fail))
     refine wqN ?_
     go_wp2_with fail
     refine(L9 _ _ _ _ _ w0 w1 w2 w3).mono ?_
     rintro e W1 ⟨rfl,rfl⟩
     go_wp2_with fail
     refine⟨rfl,?_⟩
     repeat(go_big_quiet_step (fail))
     refine wqN ?_
     go_wp2_with fail
     refine⟨jC S0.out,?_⟩
     repeat(go_big_quiet_step (fail))
     refine wqN ?_
     go_wp2_with fail
     refine⟨jC (jC S0.out),?_⟩
     repeat(go_big_quiet_step (fail))
     refine wqN ?_
     go_wp2_with fail
     refine⟨jC (jC (jC S0.out)),?_⟩
     repeat(go_big_quiet_step (fail))
     refine wqN ?_
     go_wp2_with fail
     refine⟨jC (jC (jC (jC S0.out))),dM ?_⟩
     go_wp2
     go_roundw
     case rel=>
      have hw1:=setCell_eq_setRow W0 w.heap.size p0 (Iv .u32 L) 177 (0,0) (.int .u32 (qA x0 x1 x2 x3)) hgW
      refine⟨j+1,by omega,by go_num,?_,?_,?_⟩
      ·rw[HL.out,HM.out,hw1,aL,aL,aL,bR,bR,bR,bR]
       exact setRow_heap _ _ _ _ _ _ hgW
      ·rw[hw1,aL,aL,aL]
       exact(cE _ _ _ _ (by omega)).trans hgT
      ·rw[hw1,aL,aL,aL]
       exact bDr (aO hbW _ (nQ _) _) 1
     case measure=>simp[intOf];omega
    ·obtain rfl:j=8:=by omega
     go_wp2
     go_roundw
     case rel=>exact⟨k+1,by omega,by go_num,hgj,hg1j,hbelj⟩
     case measure=>simp[intOf];omega
  ·obtain rfl:k=10:=by omega
   have hL:(bK l 10).length=16:=by rw[gF,hl]
   go_wp2_with(first|refine wpLr rfl 177 _ rfl _ rfl _ _ _ _ hg underlying177 rfl (by rw[aC,hL];exact x5) ?_ |refine wpList_store_row rfl 177 _ _ rfl _ (Iv .u32 (bK l 10)) rfl rfl _ _ hg1 (by rw[aC,hL];exact x5) (by simp[aC,hL]) (aH _ _) ?_)
   refine oG (cs:=Iv .u32 (bK l 10)) results149 ?_ (setRow_heap _ _ _ _ _ _ hg1) underlying177 (by rw[aC,hL];exact x5) ?_
   ·rfl
   ·exact⟨rfl,aO hbel _ (by omega) _⟩
set_option maxHeartbeats 1000000 in
theorem IZ (key rest:List Int) (w:World) (hk:key.length=32) (hr:rest.length=16) (hkb:aE key) (hrb:aE rest):
 Calls prog 148 #[.agg (Iv .u8 key),.agg (Iv .u8 rest)] w fun e w'=>e=.returned (.agg (Iv .u32 (iY key rest)))∧Below w.heap.size w w':=by
 go_enter func148,ntmps148
 go_wp2_with fail
 obtain⟨W,hW,h0,h1,h2,h3,hs,hb⟩:=qJ w (.cells (Iv .u8 key) 22) (.cells (Iv .u8 rest) 27) (.cells (Iv .u32 (rQ 16 0)) 177) (.cells (Iv .u32 kL) 177)
 have hW':=hW
 simp only[Iv,kL,rQ,List.map_cons,List.map_nil]at hW'
 simp only[Iv,hW']
 clear hW hW'
 have H0:aB W w.heap.size .u8 key 22:=h0
 have H1:aB W (w.heap.size+1) .u8 rest 27:=h1
 have H2:aB W (w.heap.size+1+1) .u32 (rQ 16 0) 177:=h2
 have H3:aB W (w.heap.size+1+1+1) .u32 kL 177:=h3
 clear h0 h1 h2 h3
 refine wRh 2 DL (by kernel_rfl) ?_
 simp only[tU,tJ,dJ,dY]
 repeat(go_big_quiet_step (fail))
 refine wqN ?_
 go_wp2_with fail
 refine(iV 32 (w.heap.size+1+1+1) 4 8 12 177 kL w.heap.size 0 32 key W.drew hk H3 (by decide) (by decide) (by omega) hkb (by decide) (by decide) (by intro i hi;rw[Nat.zero_add];exact H0.cell i (by omega)) (by decide) (by decide)).mono ?_
 rintro e w1 ⟨rfl,d,hw1⟩
 have K1:aB w1 (w.heap.size+1) .u8 rest 27:=by rw[hw1];exact aB.far (w:=W.drew) H1 _ _ (by omega) d
 have K2:aB w1 (w.heap.size+1+1) .u32 (rQ 16 0) 177:=by rw[hw1];exact aB.far (w:=W.drew) H2 _ _ (by omega) d
 have K3:aB w1 (w.heap.size+1+1+1) .u32 (pF9 kL 4 (aF key) 8) 177:=by rw[hw1];exact aB.put (w:=W.drew) H3 _ d
 have hb1:Below w.heap.size w w1:=by rw[hw1];exact bDr (aO (bDr hb 1) _ (by omega) _) d
 clear hw1 H0 H1 H2 H3 hb
 go_wp2_with fail
 refine wRh 2 DL (by kernel_rfl) ?_
 simp only[tU,tJ,dJ,dY]
 repeat(go_big_quiet_step (fail))
 refine wqN ?_
 go_wp2_with fail
 refine(iV 16 (w.heap.size+1+1+1) 12 4 4 177 (pF9 kL 4 (aF key) 8) (w.heap.size+1) 0 16 rest w1.drew hr K3 (by rw[aR _ _ _ _ (by decide)];decide) (by decide) (by omega) hrb (by decide) (by decide) (by intro i hi;rw[Nat.zero_add];exact K1.cell i (by omega)) (by decide) (by decide)).mono ?_
 rintro e w2 ⟨rfl,d2,hw2⟩
 have L2:aB w2 (w.heap.size+1+1) .u32 (rQ 16 0) 177:=by rw[hw2];exact aB.far (w:=w1.drew) K2 _ _ (by omega) d2
 have L3:aB w2 (w.heap.size+1+1+1) .u32 (iY key rest) 177:=by rw[hw2];exact aB.put (w:=w1.drew) K3 _ d2
 have hb2:Below w.heap.size w w2:=by rw[hw2];exact bDr (aO (bDr hb1 1) _ (by omega) _) d2
 clear hw2 K1 K2 K3 hb1
 have hi:(prog.info? 177).map (·.size)=some (Iv .u32 (iY key rest)).size:=by rw[aC];exact x5
 go_wp2_with(first|refine wpLr rfl 177 _ rfl _ rfl _ _ _ _ L3 underlying177 rfl hi ?_ |refine wpList_store_row rfl 177 _ _ rfl _ (Iv .u32 (iY key rest)) rfl rfl _ _ L2 hi (by rw[aC,aC];rfl) (aH _ _) ?_)
 refine oG (cs:=Iv .u32 (iY key rest)) results148 ?_ (setRow_heap _ _ _ _ _ _ L2) underlying177 hi ?_
 ·rfl
 ·exact⟨rfl,aO hb2 _ (by omega) _⟩
end Go.Proofs.YtgcepckaolkeoaaGreatDoor
