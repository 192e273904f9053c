import Derived.Test.YtmjccemdldidaaaGreatDoorMH17
namespace Go.Proofs.YtmjccemdldidaaaGreatDoor
open Go.RowKit
open Go.Proofs.Tryz
open Go renaming heap_alloc_new → hAN, wpList_load_row → wpLr, wpQuiet_nil → wqN
open Go.World renaming block_lt_of_cell? → wJ
open List renaming drop_succ_cons → dJ, drop_zero → dY, length_replicate → rJ, not_mem_nil → nY, replicate → rQ, take_succ_cons → tU, take_zero → tJ
open Nat renaming le_refl → nQ
set_option linter.unusedVariables false
set_option maxHeartbeats 4000000
set_option maxRecDepth 10000
theorem wH:prog.follows .mixedOrders=true:=by kernel_rfl
theorem OE:(prog.info? 177).map (·.size)=some 16:=by kernel_rfl
theorem ahI (x:Int) (w:World) (h:gG x):Calls prog 120 #[.int .u32 x,.int .i64 16] w fun e w'=>e=.returned (.int .u32 (rl 16 x))∧∃d,w'=w.drewN d:=by
 have hr:rl 16 x=x / 65536+x%65536*65536:=rfl
 have HR:Hid (rl 16 x=x / 65536+x%65536*65536):=hr
 clear hr
 obtain⟨h0,h1⟩:=h
 have hx:(0:Int)≤x%65536:=by omega
 have hx1:x%65536<65536:=by omega
 go_enter func120,ntmps120
 go_wp2_with go_in
 go_quiet (fail)
 go_wp2
 go_ret
 refine⟨?_,nq,rfl⟩
 rw[HR.out]
 rfl
theorem ahH (x:Int) (w:World) (h:gG x):Calls prog 120 #[.int .u32 x,.int .i64 12] w fun e w'=>e=.returned (.int .u32 (rl 12 x))∧∃d,w'=w.drewN d:=by
 have hr:rl 12 x=x / 1048576+x%1048576*4096:=rfl
 have HR:Hid (rl 12 x=x / 1048576+x%1048576*4096):=hr
 clear hr
 obtain⟨h0,h1⟩:=h
 have hx:(0:Int)≤x%1048576:=by omega
 have hx1:x%1048576<1048576:=by omega
 go_enter func120,ntmps120
 go_wp2_with go_in
 go_quiet (fail)
 go_wp2
 go_ret
 refine⟨?_,nq,rfl⟩
 rw[HR.out]
 rfl
theorem ajF (x:Int) (w:World) (h:gG x):Calls prog 120 #[.int .u32 x,.int .i64 8] w fun e w'=>e=.returned (.int .u32 (rl 8 x))∧∃d,w'=w.drewN d:=by
 have hr:rl 8 x=x / 16777216+x%16777216*256:=rfl
 have HR:Hid (rl 8 x=x / 16777216+x%16777216*256):=hr
 clear hr
 obtain⟨h0,h1⟩:=h
 have hx:(0:Int)≤x%16777216:=by omega
 have hx1:x%16777216<16777216:=by omega
 go_enter func120,ntmps120
 go_wp2_with go_in
 go_quiet (fail)
 go_wp2
 go_ret
 refine⟨?_,nq,rfl⟩
 rw[HR.out]
 rfl
theorem ajE (x:Int) (w:World) (h:gG x):Calls prog 120 #[.int .u32 x,.int .i64 7] w fun e w'=>e=.returned (.int .u32 (rl 7 x))∧∃d,w'=w.drewN d:=by
 have hr:rl 7 x=x / 33554432+x%33554432*128:=rfl
 have HR:Hid (rl 7 x=x / 33554432+x%33554432*128):=hr
 clear hr
 obtain⟨h0,h1⟩:=h
 have hx:(0:Int)≤x%33554432:=by omega
 have hx1:x%33554432<33554432:=by omega
 go_enter func120,ntmps120
 go_wp2_with go_in
 go_quiet (fail)
 go_wp2
 go_ret
 refine⟨?_,nq,rfl⟩
 rw[HR.out]
 rfl
theorem aaY (i:Nat) (h:i<8) (w:World):Calls prog 105 #[.int .i64 i] w fun e w'=>e=.returned (.tuple #[.int .i64 (q0 i),.int .i64 (q1 i),.int .i64 (q2 i),.int .i64 (q3 i)])∧w'=w:=by
 have hc:i=0∨i=1∨i=2∨i=3∨i=4∨i=5∨i=6∨i=7:=by omega
 rcases hc with rfl|rfl|rfl|rfl|rfl|rfl|rfl|rfl
 all_goals
  go_enter func105,ntmps105
  go_wp2
  exact bodyPost_ret (v:=.tuple #[.int .i64 _,.int .i64 _,.int .i64 _,.int .i64 _]) (by simp[results,results105,go_sem];exact⟨rfl,rfl,rfl,rfl⟩) rfl ⟨rfl,rfl⟩
theorem E9 {w:World} {g:Nat} {t:TypeId} {l:LI} (h:aE w g .u32 l t) (off k:Nat) (f:Nat→Int) (hk:off+k<l.length):
 (w.setRow g (Iv .u32 (pF9 l off f k))).setCell ⟨g,off+k,none⟩ (.int .u32 (f k))=w.setRow g (Iv .u32 (pF9 l off f (k+1))):=by
 rw[aK,bZ,cP _ _ _ _ hk]
theorem QX (key ws:LI) (n:Nat) (w:World) (hk:key.length=32) (hkb:aC key) (hn:ws.length=n) (hn4:n≤4) (a:Option Addr) (cap:Nat) (hr:RdK .u32 w a ws):
 Calls prog 90 #[.agg (Iv .u8 key),.slice a n cap] w fun e w'=>e=.returned (.agg (Iv .u32 (pF9 (pF9 mN 4 (aF key) 8) 12 (aM ws) n)))∧Below w.heap.size w w':=by
 go_enter func90,ntmps90
 go_wp2_with fail
 obtain⟨W,hW,h0,h1,h2,hs,hb⟩:=pL w (.cells (Iv .u8 key) 25) (.cells (Iv .u32 (rQ 16 0)) 177) (.cells (Iv .u32 mN) 177)
 have hW':=hW
 simp only[Iv,mN,rQ,List.map_cons,List.map_nil]at hW'
 simp only[Iv,hW']
 clear hW hW'
 have H0:aE W w.heap.size .u8 key 25:=h0
 have H1:aE W (w.heap.size+1) .u32 (rQ 16 0) 177:=h1
 have H2:aE W (w.heap.size+1+1) .u32 mN 177:=h2
 clear h0 h1 h2
 refine(yC key 32 8 hk hkb (by decide) (by decide) (some ⟨w.heap.size,0,none⟩) 32 W (fun i hi=>⟨w.heap.size,0,rfl,by rw[Nat.zero_add];exact H0.cell i hi⟩)).mono ?_
 rintro e W1 ⟨v,rfl,hown,hb1⟩
 have K1:=H1.below hb1 H1.lt
 have K2:=H2.below hb1 H2.lt
 have hbw:Below w.heap.size w W1:=hb.trans (hb1.mono (by omega))
 obtain⟨rfl,hnil⟩|⟨g,cp,rfl,hgb,hgl,hlc,hcm,hcell,_⟩:=hown.at
 ·exact absurd hnil (by simp[bI])
 have hwl:(bI key 8).length=8:=kH _ _
 have HC:Hid (∀i,i<8→W1.cell? ⟨g,i,none⟩=some (.int .u32 (aF key i))):=by
  intro i hi
  have:=hcell i (by omega)
  rw[this]
  simp[bI,hi]
 have HR:Hid (∀i,i<n→∃b o,a=some ⟨b,o,none⟩∧b<w.heap.size∧W1.cell? ⟨b,o+i,none⟩=some (.int .u32 (aM ws i))):=by
  intro i hi
  obtain⟨b,o,e1,e2⟩:=hr i (by omega)
  have hl:=wJ _ _ e2
  exact⟨b,o,e1,hl,(hbw.cell (p:=⟨b,o+i,none⟩) hl).trans e2⟩
 rw[hwl]at*
 have hgne:g≠w.heap.size+1+1:=by omega
 clear hcell hown hr H0 H1 H2 hb hb1 hs hgb hgl hwl hlc hcm
 go_wp2_with fail
 go_loopw [14] (fun i wr=>∃k:Nat,k≤8∧i=.int .i64 k∧wr=W1.setRow (w.heap.size+1+1) (Iv .u32 (pF9 mN 4 (aF key) k))) (fun i _=>8 - (intOf i).toNat)
 case atStart=>exact⟨0,by omega,rfl,by rw[cR,iE _ _ _ _ _ K2]⟩
 case round=>
  obtain⟨k,hk8,rfl,rfl⟩:=hrel
  by_cases hlt:k<8
  ·have c1:(W1.setRow (w.heap.size+1+1) (Iv .u32 (pF9 mN 4 (aF key) k))).cell? ⟨g,k,none⟩=some (.int .u32 (aF key k)):=by rw[bB _ _ _ _ hgne];exact HC.out k hlt
   have c2:∃v,(W1.setRow (w.heap.size+1+1) (Iv .u32 (pF9 mN 4 (aF key) k))).cell? ⟨w.heap.size+1+1,4+k,none⟩=some v:=by
    rw[eS _ _ _ _ _ _ _ K2]
    exact nD _ _ _ (by rw[aS _ _ _ _ (by simp[mN];omega)];simp[mN];omega)
   obtain⟨v2,c2⟩:=c2
   have c3:(W1.setRow (w.heap.size+1+1) (Iv .u32 (pF9 mN 4 (aF key) k))).frozen? ⟨w.heap.size+1+1,4+k,none⟩=false:=by rw[iJ];exact frozen_of_row _ _ _ _ _ K2
   have HS:Hid ((W1.setRow (w.heap.size+1+1) (Iv .u32 (pF9 mN 4 (aF key) k))).setCell ⟨w.heap.size+1+1,4+k,none⟩ (.int .u32 (aF key k))=W1.setRow (w.heap.size+1+1) (Iv .u32 (pF9 mN 4 (aF key) (k+1)))):=E9 K2 4 k _ (by simp[mN];omega)
   go_wp2
   go_roundw
   case rel=>exact⟨k+1,by omega,by go_num,HS.out⟩
   case measure=>simp[intOf];omega
  ·obtain rfl:k=8:=by omega
   have J1:aE (W1.setRow (w.heap.size+1+1) (Iv .u32 (pF9 mN 4 (aF key) 8))) (w.heap.size+1) .u32 (rQ 16 0) 177:=K1.far _ _ (by omega) 0
   have J2:aE (W1.setRow (w.heap.size+1+1) (Iv .u32 (pF9 mN 4 (aF key) 8))) (w.heap.size+1+1) .u32 (pF9 mN 4 (aF key) 8) 177:=K2.put _ 0
   have J3:Below w.heap.size w (W1.setRow (w.heap.size+1+1) (Iv .u32 (pF9 mN 4 (aF key) 8))):=aO hbw _ (by omega) _
   have HR2:Hid (∀i,i<n→∃b o,a=some ⟨b,o,none⟩∧b<w.heap.size∧(W1.setRow (w.heap.size+1+1) (Iv .u32 (pF9 mN 4 (aF key) 8))).cell? ⟨b,o+i,none⟩=some (.int .u32 (aM ws i))):=by
    intro i hi
    obtain⟨b,o,e1,e2,e3⟩:=HR.out i hi
    exact⟨b,o,e1,e2,by rw[bB _ _ _ _ (by show b≠_;omega)];exact e3⟩
   generalize W1.setRow (w.heap.size+1+1) (Iv .u32 (pF9 mN 4 (aF key) 8))=W2 at*
   clear HR HC K1 K2 hbw
   have hlen:(pF9 mN 4 (aF key) 8).length=16:=by rw[aS _ _ _ _ (by simp[mN])];rfl
   generalize hLe:pF9 mN 4 (aF key) 8=L at*
   have HLe:Hid _:=hLe
   clear hLe
   go_wp2_with fail
   go_loopw [26] (fun i wr=>∃k:Nat,k≤n∧i=.int .i64 k∧wr=W2.setRow (w.heap.size+1+1) (Iv .u32 (pF9 L 12 (aM ws) k))) (fun i _=>n - (intOf i).toNat)
   case atStart=>exact⟨0,by omega,rfl,by rw[cR,iE _ _ _ _ _ J2]⟩
   case round=>
    obtain⟨k,hkn,rfl,rfl⟩:=hrel
    by_cases hlt2:k<n
    ·obtain⟨b,o,rfl,hbl,d1⟩:=HR2.out k hlt2
     have c1:(W2.setRow (w.heap.size+1+1) (Iv .u32 (pF9 L 12 (aM ws) k))).cell? ⟨b,o+k,none⟩=some (.int .u32 (aM ws k)):=by rw[bB _ _ _ _ (by show b≠_;omega)];exact d1
     have c2:∃v,(W2.setRow (w.heap.size+1+1) (Iv .u32 (pF9 L 12 (aM ws) k))).cell? ⟨w.heap.size+1+1,12+k,none⟩=some v:=by
      rw[eS _ _ _ _ _ _ _ J2]
      exact nD _ _ _ (by rw[aS _ _ _ _ (by omega)];omega)
     obtain⟨v2,c2⟩:=c2
     have c3:(W2.setRow (w.heap.size+1+1) (Iv .u32 (pF9 L 12 (aM ws) k))).frozen? ⟨w.heap.size+1+1,12+k,none⟩=false:=by rw[iJ];exact frozen_of_row _ _ _ _ _ J2
     have HS:Hid _:=E9 J2 12 k (aM ws) (by omega)
     have h16:(12:Int)+k<16:=by omega
     clear HR2 d1
     generalize aM ws k=x at*
     go_wp2
     go_roundw
     case rel=>exact⟨k+1,by omega,by go_num,HS.out⟩
     case measure=>simp[intOf];omega
    ·obtain rfl:k=n:=by omega
     have hL:(pF9 L 12 (aM ws) k).length=16:=by rw[aS _ _ _ _ (by omega),hlen]
     have HI:Hid ((prog.info? 177).map (·.size)=some (Iv .u32 (pF9 L 12 (aM ws) k)).size):=by show _=_;rw[aD,hL];exact OE
     have HZ:Hid ((Iv .u32 (rQ 16 0)).size=(Iv .u32 (pF9 L 12 (aM ws) k)).size):=by show _=_;rw[aD,aD,hL,rJ]
     have M1:aE (W2.setRow (w.heap.size+1+1) (Iv .u32 (pF9 L 12 (aM ws) k))) (w.heap.size+1) .u32 (rQ 16 0) 177:=J1.far _ _ (by omega) 0
     have M2:aE (W2.setRow (w.heap.size+1+1) (Iv .u32 (pF9 L 12 (aM ws) k))) (w.heap.size+1+1) .u32 (pF9 L 12 (aM ws) k) 177:=J2.put _ 0
     have M3:Below w.heap.size w (W2.setRow (w.heap.size+1+1) (Iv .u32 (pF9 L 12 (aM ws) k))):=aO J3 _ (by omega) _
     generalize hFe:pF9 L 12 (aM ws) k=F at*
     have HFe:Hid _:=hFe
     clear hFe HR2
     generalize W2.setRow (w.heap.size+1+1) (Iv .u32 F)=W3 at*
     go_wp2_with(first|refine wpLr rfl 177 _ rfl (w.heap.size+1+1) rfl _ (Iv .u32 F) _ _ M2 underlying177 rfl HI.out ?_ |refine wpList_store_row rfl 177 _ _ rfl (w.heap.size+1) (Iv .u32 F) rfl rfl _ _ M1 HI.out HZ.out (aG _ _) ?_)
     refine pW (cs:=Iv .u32 F) results90 ?_ (setRow_heap _ _ _ _ _ _ M1) underlying177 HI.out ?_
     ·rfl
     ·exact⟨by rw[HLe.out,HFe.out],aO M3 _ (by omega) _⟩
theorem KD (l:LI) (a b c d:Nat) (w:World) (hl:l.length=16) (h:bJ l) (ha:a<16) (hb:b<16) (hc:c<16) (hd:d<16) (ab:a≠b) (ac:a≠c) (had:a≠d) (bc:b≠c) (bd:b≠d) (cd:c≠d):
 Calls prog 107 #[.agg (Iv .u32 l),.int .i64 a,.int .i64 b,.int .i64 c,.int .i64 d] w fun e w'=>e=.returned (.agg (Iv .u32 (jZ l a b c d)))∧Below w.heap.size w w':=by
 have hwa:=h a
 have hwb:=h b
 have hwc:=h c
 have hwd:=h d
 have HM:Hid _:=U6 l a b c d
 have HS:Hid _:=MN l a b c d
 have HAT:Hid (∀A B C D:Int,(put4 l a b c d A B C D).getD a 0=A∧(put4 l a b c d A B C D).getD b 0=B∧(put4 l a b c d A B C D).getD c 0=C∧(put4 l a b c d A B C D).getD d 0=D):=fun A B C D=>XW l A B C D (by omega) (by omega) (by omega) (by omega) ab ac had bc bd cd
 have HLEN:Hid (∀A B C D:Int,(put4 l a b c d A B C D).length=16):=fun A B C D=>by rw[wO,hl]
 have HQ:Hid (∀(W:World) (A B C D:Int) (R:aE W w.heap.size .u32 (put4 l a b c d A B C D) 177),W.cell? ⟨w.heap.size,a,none⟩=some (.int .u32 A)∧W.cell? ⟨w.heap.size,b,none⟩=some (.int .u32 B)∧W.cell? ⟨w.heap.size,c,none⟩=some (.int .u32 C)∧W.cell? ⟨w.heap.size,d,none⟩=some (.int .u32 D)∧W.frozen? ⟨w.heap.size,a,none⟩=false∧W.frozen? ⟨w.heap.size,b,none⟩=false∧W.frozen? ⟨w.heap.size,c,none⟩=false∧W.frozen? ⟨w.heap.size,d,none⟩=false):=fun W A B C D R=>⟨by have:=R.cell a (by rw[HLEN.out];omega);rw[(HAT.out _ _ _ _).1]at this;exact this,by have:=R.cell b (by rw[HLEN.out];omega);rw[(HAT.out _ _ _ _).2.1]at this;exact this,by have:=R.cell c (by rw[HLEN.out];omega);rw[(HAT.out _ _ _ _).2.2.1]at this;exact this,by have:=R.cell d (by rw[HLEN.out];omega);rw[(HAT.out _ _ _ _).2.2.2]at this;exact this,R.frozen a,R.frozen b,R.frozen c,R.frozen d⟩
 generalize l.getD a 0=A0 at*
 generalize l.getD b 0=B0 at*
 generalize l.getD c 0=C0 at*
 generalize l.getD d 0=D0 at*
 have hai:(a:Int)<16:=by omega
 have hbi:(b:Int)<16:=by omega
 have hci:(c:Int)<16:=by omega
 have hdi:(d:Int)<16:=by omega
 go_enter func107,ntmps107
 go_wp2_with fail
 obtain⟨W0,hW,R00,Z00,hs0,hb0⟩:=iU w (.cells (Iv .u32 l) 177) (.cells (Iv .u32 (rQ 16 0)) 177)
 have R0:aE W0 w.heap.size .u32 (put4 l a b c d A0 B0 C0 D0) 177:=by rw[HS.out];exact R00
 have Z0:aE W0 (w.heap.size+1) .u32 (rQ 16 0) 177:=Z00
 clear R00 Z00 hs0
 have hW':=hW
 simp only[Iv,rQ,List.map_cons,List.map_nil]at hW'
 simp only[Iv,hW']
 clear hW hW'
 obtain⟨ca0,cb0,cc0,cd0,fa0,fb0,fc0,fd0⟩:=HQ.out _ _ _ _ _ R0
 go_wp2_with fail
 refine wRh 8 wH (by kernel_rfl) ?_
 simp only[tU,tJ,dJ,dY]
 repeat(go_big_quiet_step (fail))
 refine wqN ?_
 go_wp2_with fail
 obtain⟨W1,hWn⟩:∃X,X=(W0.setCell ⟨w.heap.size,a,none⟩ (.int .u32 ((A0+B0)%4294967296))).drew:=⟨_,rfl⟩
 rw[←hWn]
 have R1:aE W1 w.heap.size .u32 ((put4 l a b c d A0 B0 C0 D0).set a ((A0+B0)%4294967296)) 177:=by rw[hWn];exact R0.setCell a _
 have Z1:aE W1 (w.heap.size+1) .u32 (rQ 16 0) 177:=by rw[hWn];exact Z0.setFar _ _ (by show w.heap.size≠_;omega)
 have hb1:Below w.heap.size w W1:=by rw[hWn];exact bDr (hb0.setCell (by simp) _) 1
 rw[OT l _ _ _ _ _ ab ac had]at R1
 obtain⟨A1,hA1⟩:∃X,X=((A0+B0)%4294967296):=⟨_,rfl⟩
 rw[←hA1]at R1
 simp only[←hA1]
 have E1:Hid (A1=ad A0 B0):=hA1
 clear hA1 hWn R0 Z0 hb0 ca0 cb0 cc0 cd0 fa0 fb0 fc0 fd0
 obtain⟨ca1,cb1,cc1,cd1,fa1,fb1,fc1,fd1⟩:=HQ.out _ _ _ _ _ R1
 go_wp2_with fail
 refine wRl 8 (fun _=>True) [(.held,[0]),(.exact,[1,2,3,4,5,6,7]),(.tail,[8]),(.held,[9]),(.tail,[10])] wH (by kernel_rfl) trivial ?_
 simp only[iX,oS]
 repeat(go_big_quiet_step (fail))
 refine wqN ?_
 repeat(go_big_quiet_step (fail))
 refine wqN ?_
 go_wp2_with fail
 refine(ahI _ _ (iY _ _)).mono ?_
 rintro e W1x ⟨rfl,d1,hWx⟩
 have R1x:aE W1x w.heap.size .u32 (put4 l a b c d A1 B0 C0 D0) 177:=by rw[hWx];exact R1
 have Z1x:aE W1x (w.heap.size+1) .u32 (rQ 16 0) 177:=by rw[hWx];exact Z1
 have hb1x:Below w.heap.size w W1x:=by rw[hWx];exact bDr (bDr hb1 1) d1
 have hy1:∃v,W1x.cell? ⟨w.heap.size,d,none⟩=some v:=⟨_,R1x.cell d (by rw[HLEN.out];omega)⟩
 obtain⟨v1,hv1⟩:=hy1
 have fx1:W1x.frozen? ⟨w.heap.size,d,none⟩=false:=R1x.frozen d
 clear hWx
 go_wp2_with fail
 refine⟨trivial,?_⟩
 repeat(go_big_quiet_step (fail))
 refine wqN ?_
 go_wp2_with fail
 refine⟨trivial,dV ?_⟩
 obtain⟨W2,hWn⟩:∃X,X=W1x.setCell ⟨w.heap.size,d,none⟩ (.int .u32 (rl 16 (xr D0 A1))):=⟨_,rfl⟩
 rw[←hWn]
 have R2:aE W2 w.heap.size .u32 ((put4 l a b c d A1 B0 C0 D0).set d (rl 16 (xr D0 A1))) 177:=by rw[hWn];exact R1x.setCell d _
 have Z2:aE W2 (w.heap.size+1) .u32 (rQ 16 0) 177:=by rw[hWn];exact Z1x.setFar _ _ (by show w.heap.size≠_;omega)
 have hb2:Below w.heap.size w W2:=by rw[hWn];exact hb1x.setCell (by simp) _
 clear R1x Z1x hb1x hv1 fx1
 rw[OW l _ _ _ _ _]at R2
 obtain⟨D2,hD2⟩:∃X,X=(rl 16 (xr D0 A1)):=⟨_,rfl⟩
 rw[←hD2]at R2
 simp only[←hD2]
 have E2:Hid (D2=rl 16 (xr D0 A1)):=hD2
 clear hD2 hWn R1 Z1 hb1 ca1 cb1 cc1 cd1 fa1 fb1 fc1 fd1
 obtain⟨ca2,cb2,cc2,cd2,fa2,fb2,fc2,fd2⟩:=HQ.out _ _ _ _ _ R2
 go_wp2_with fail
 refine wRh 8 wH (by kernel_rfl) ?_
 simp only[tU,tJ,dJ,dY]
 repeat(go_big_quiet_step (fail))
 refine wqN ?_
 go_wp2_with fail
 obtain⟨W3,hWn⟩:∃X,X=(W2.setCell ⟨w.heap.size,c,none⟩ (.int .u32 ((C0+D2)%4294967296))).drew:=⟨_,rfl⟩
 rw[←hWn]
 have R3:aE W3 w.heap.size .u32 ((put4 l a b c d A1 B0 C0 D2).set c ((C0+D2)%4294967296)) 177:=by rw[hWn];exact R2.setCell c _
 have Z3:aE W3 (w.heap.size+1) .u32 (rQ 16 0) 177:=by rw[hWn];exact Z2.setFar _ _ (by show w.heap.size≠_;omega)
 have hb3:Below w.heap.size w W3:=by rw[hWn];exact bDr (hb2.setCell (by simp) _) 1
 rw[OV l _ _ _ _ _ cd]at R3
 obtain⟨C3,hC3⟩:∃X,X=((C0+D2)%4294967296):=⟨_,rfl⟩
 rw[←hC3]at R3
 simp only[←hC3]
 have E3:Hid (C3=ad C0 D2):=hC3
 clear hC3 hWn R2 Z2 hb2 ca2 cb2 cc2 cd2 fa2 fb2 fc2 fd2
 obtain⟨ca3,cb3,cc3,cd3,fa3,fb3,fc3,fd3⟩:=HQ.out _ _ _ _ _ R3
 go_wp2_with fail
 refine wRl 8 (fun _=>True) [(.held,[0]),(.exact,[1,2,3,4,5,6,7]),(.tail,[8]),(.held,[9]),(.tail,[10])] wH (by kernel_rfl) trivial ?_
 simp only[iX,oS]
 repeat(go_big_quiet_step (fail))
 refine wqN ?_
 repeat(go_big_quiet_step (fail))
 refine wqN ?_
 go_wp2_with fail
 refine(ahH _ _ (iY _ _)).mono ?_
 rintro e W3x ⟨rfl,d3,hWx⟩
 have R3x:aE W3x w.heap.size .u32 (put4 l a b c d A1 B0 C3 D2) 177:=by rw[hWx];exact R3
 have Z3x:aE W3x (w.heap.size+1) .u32 (rQ 16 0) 177:=by rw[hWx];exact Z3
 have hb3x:Below w.heap.size w W3x:=by rw[hWx];exact bDr (bDr hb3 1) d3
 have hy3:∃v,W3x.cell? ⟨w.heap.size,b,none⟩=some v:=⟨_,R3x.cell b (by rw[HLEN.out];omega)⟩
 obtain⟨v3,hv3⟩:=hy3
 have fx3:W3x.frozen? ⟨w.heap.size,b,none⟩=false:=R3x.frozen b
 clear hWx
 go_wp2_with fail
 refine⟨trivial,?_⟩
 repeat(go_big_quiet_step (fail))
 refine wqN ?_
 go_wp2_with fail
 refine⟨trivial,dV ?_⟩
 obtain⟨W4,hWn⟩:∃X,X=W3x.setCell ⟨w.heap.size,b,none⟩ (.int .u32 (rl 12 (xr B0 C3))):=⟨_,rfl⟩
 rw[←hWn]
 have R4:aE W4 w.heap.size .u32 ((put4 l a b c d A1 B0 C3 D2).set b (rl 12 (xr B0 C3))) 177:=by rw[hWn];exact R3x.setCell b _
 have Z4:aE W4 (w.heap.size+1) .u32 (rQ 16 0) 177:=by rw[hWn];exact Z3x.setFar _ _ (by show w.heap.size≠_;omega)
 have hb4:Below w.heap.size w W4:=by rw[hWn];exact hb3x.setCell (by simp) _
 clear R3x Z3x hb3x hv3 fx3
 rw[OU l _ _ _ _ _ bc bd]at R4
 obtain⟨B4,hB4⟩:∃X,X=(rl 12 (xr B0 C3)):=⟨_,rfl⟩
 rw[←hB4]at R4
 simp only[←hB4]
 have E4:Hid (B4=rl 12 (xr B0 C3)):=hB4
 clear hB4 hWn R3 Z3 hb3 ca3 cb3 cc3 cd3 fa3 fb3 fc3 fd3
 obtain⟨ca4,cb4,cc4,cd4,fa4,fb4,fc4,fd4⟩:=HQ.out _ _ _ _ _ R4
 go_wp2_with fail
 refine wRh 8 wH (by kernel_rfl) ?_
 simp only[tU,tJ,dJ,dY]
 repeat(go_big_quiet_step (fail))
 refine wqN ?_
 go_wp2_with fail
 obtain⟨W5,hWn⟩:∃X,X=(W4.setCell ⟨w.heap.size,a,none⟩ (.int .u32 ((A1+B4)%4294967296))).drew:=⟨_,rfl⟩
 rw[←hWn]
 have R5:aE W5 w.heap.size .u32 ((put4 l a b c d A1 B4 C3 D2).set a ((A1+B4)%4294967296)) 177:=by rw[hWn];exact R4.setCell a _
 have Z5:aE W5 (w.heap.size+1) .u32 (rQ 16 0) 177:=by rw[hWn];exact Z4.setFar _ _ (by show w.heap.size≠_;omega)
 have hb5:Below w.heap.size w W5:=by rw[hWn];exact bDr (hb4.setCell (by simp) _) 1
 rw[OT l _ _ _ _ _ ab ac had]at R5
 obtain⟨A5,hA5⟩:∃X,X=((A1+B4)%4294967296):=⟨_,rfl⟩
 rw[←hA5]at R5
 simp only[←hA5]
 have E5:Hid (A5=ad A1 B4):=hA5
 clear hA5 hWn R4 Z4 hb4 ca4 cb4 cc4 cd4 fa4 fb4 fc4 fd4
 obtain⟨ca5,cb5,cc5,cd5,fa5,fb5,fc5,fd5⟩:=HQ.out _ _ _ _ _ R5
 go_wp2_with fail
 refine wRl 8 (fun _=>True) [(.held,[0]),(.exact,[1,2,3,4,5,6,7]),(.tail,[8]),(.held,[9]),(.tail,[10])] wH (by kernel_rfl) trivial ?_
 simp only[iX,oS]
 repeat(go_big_quiet_step (fail))
 refine wqN ?_
 repeat(go_big_quiet_step (fail))
 refine wqN ?_
 go_wp2_with fail
 refine(ajF _ _ (iY _ _)).mono ?_
 rintro e W5x ⟨rfl,d5,hWx⟩
 have R5x:aE W5x w.heap.size .u32 (put4 l a b c d A5 B4 C3 D2) 177:=by rw[hWx];exact R5
 have Z5x:aE W5x (w.heap.size+1) .u32 (rQ 16 0) 177:=by rw[hWx];exact Z5
 have hb5x:Below w.heap.size w W5x:=by rw[hWx];exact bDr (bDr hb5 1) d5
 have hy5:∃v,W5x.cell? ⟨w.heap.size,d,none⟩=some v:=⟨_,R5x.cell d (by rw[HLEN.out];omega)⟩
 obtain⟨v5,hv5⟩:=hy5
 have fx5:W5x.frozen? ⟨w.heap.size,d,none⟩=false:=R5x.frozen d
 clear hWx
 go_wp2_with fail
 refine⟨trivial,?_⟩
 repeat(go_big_quiet_step (fail))
 refine wqN ?_
 go_wp2_with fail
 refine⟨trivial,dV ?_⟩
 obtain⟨W6,hWn⟩:∃X,X=W5x.setCell ⟨w.heap.size,d,none⟩ (.int .u32 (rl 8 (xr D2 A5))):=⟨_,rfl⟩
 rw[←hWn]
 have R6:aE W6 w.heap.size .u32 ((put4 l a b c d A5 B4 C3 D2).set d (rl 8 (xr D2 A5))) 177:=by rw[hWn];exact R5x.setCell d _
 have Z6:aE W6 (w.heap.size+1) .u32 (rQ 16 0) 177:=by rw[hWn];exact Z5x.setFar _ _ (by show w.heap.size≠_;omega)
 have hb6:Below w.heap.size w W6:=by rw[hWn];exact hb5x.setCell (by simp) _
 clear R5x Z5x hb5x hv5 fx5
 rw[OW l _ _ _ _ _]at R6
 obtain⟨D6,hD6⟩:∃X,X=(rl 8 (xr D2 A5)):=⟨_,rfl⟩
 rw[←hD6]at R6
 simp only[←hD6]
 have E6:Hid (D6=rl 8 (xr D2 A5)):=hD6
 clear hD6 hWn R5 Z5 hb5 ca5 cb5 cc5 cd5 fa5 fb5 fc5 fd5
 obtain⟨ca6,cb6,cc6,cd6,fa6,fb6,fc6,fd6⟩:=HQ.out _ _ _ _ _ R6
 go_wp2_with fail
 refine wRh 8 wH (by kernel_rfl) ?_
 simp only[tU,tJ,dJ,dY]
 repeat(go_big_quiet_step (fail))
 refine wqN ?_
 go_wp2_with fail
 obtain⟨W7,hWn⟩:∃X,X=(W6.setCell ⟨w.heap.size,c,none⟩ (.int .u32 ((C3+D6)%4294967296))).drew:=⟨_,rfl⟩
 rw[←hWn]
 have R7:aE W7 w.heap.size .u32 ((put4 l a b c d A5 B4 C3 D6).set c ((C3+D6)%4294967296)) 177:=by rw[hWn];exact R6.setCell c _
 have Z7:aE W7 (w.heap.size+1) .u32 (rQ 16 0) 177:=by rw[hWn];exact Z6.setFar _ _ (by show w.heap.size≠_;omega)
 have hb7:Below w.heap.size w W7:=by rw[hWn];exact bDr (hb6.setCell (by simp) _) 1
 rw[OV l _ _ _ _ _ cd]at R7
 obtain⟨C7,hC7⟩:∃X,X=((C3+D6)%4294967296):=⟨_,rfl⟩
 rw[←hC7]at R7
 simp only[←hC7]
 have E7:Hid (C7=ad C3 D6):=hC7
 clear hC7 hWn R6 Z6 hb6 ca6 cb6 cc6 cd6 fa6 fb6 fc6 fd6
 obtain⟨ca7,cb7,cc7,cd7,fa7,fb7,fc7,fd7⟩:=HQ.out _ _ _ _ _ R7
 go_wp2_with fail
 refine wRl 8 (fun _=>True) [(.held,[0]),(.exact,[1,2,3,4,5,6,7]),(.tail,[8]),(.held,[9]),(.tail,[10])] wH (by kernel_rfl) trivial ?_
 simp only[iX,oS]
 repeat(go_big_quiet_step (fail))
 refine wqN ?_
 repeat(go_big_quiet_step (fail))
 refine wqN ?_
 go_wp2_with fail
 refine(ajE _ _ (iY _ _)).mono ?_
 rintro e W7x ⟨rfl,d7,hWx⟩
 have R7x:aE W7x w.heap.size .u32 (put4 l a b c d A5 B4 C7 D6) 177:=by rw[hWx];exact R7
 have Z7x:aE W7x (w.heap.size+1) .u32 (rQ 16 0) 177:=by rw[hWx];exact Z7
 have hb7x:Below w.heap.size w W7x:=by rw[hWx];exact bDr (bDr hb7 1) d7
 have hy7:∃v,W7x.cell? ⟨w.heap.size,b,none⟩=some v:=⟨_,R7x.cell b (by rw[HLEN.out];omega)⟩
 obtain⟨v7,hv7⟩:=hy7
 have fx7:W7x.frozen? ⟨w.heap.size,b,none⟩=false:=R7x.frozen b
 clear hWx
 go_wp2_with fail
 refine⟨trivial,?_⟩
 repeat(go_big_quiet_step (fail))
 refine wqN ?_
 go_wp2_with fail
 refine⟨trivial,dV ?_⟩
 have R8:=R7x.setCell b (rl 7 (xr B4 C7))
 have Z8:aE (W7x.setCell ⟨w.heap.size,b,none⟩ (.int .u32 (rl 7 (xr B4 C7)))) (w.heap.size+1) .u32 (rQ 16 0) 177:=Z7x.setFar _ _ (by show w.heap.size≠_;omega)
 have hb8:Below w.heap.size w (W7x.setCell ⟨w.heap.size,b,none⟩ (.int .u32 (rl 7 (xr B4 C7)))):=hb7x.setCell (by simp) _
 rw[OU l _ _ _ _ _ bc bd]at R8
 have hfin:put4 l a b c d A5 (rl 7 (xr B4 C7)) C7 D6=jZ l a b c d:=by
  rw[HM.out]
  have e1:=E1.out
  have e2:=E2.out
  have e3:=E3.out
  have e4:=E4.out
  have e5:=E5.out
  have e6:=E6.out
  have e7:=E7.out
  subst e1 e2 e3 e4 e5 e6 e7
  rfl
 rw[hfin]at R8
 have HR8:Hid _:=R8
 have HZ8:Hid _:=Z8
 have HB8:Hid _:=hb8
 have hL:(jZ l a b c d).length=16:=by rw[uW,hl]
 have hi:(prog.info? 177).map (·.size)=some (Iv .u32 (jZ l a b c d)).size:=by rw[aD,hL];exact OE
 have hz:(Iv .u32 (rQ 16 0)).size=(Iv .u32 (jZ l a b c d)).size:=by rw[aD,aD,hL,rJ]
 have HI:Hid _:=hi
 have HZ:Hid _:=hz
 go_wp2_with(first|refine wpLr rfl 177 _ rfl w.heap.size rfl _ (Iv .u32 (jZ l a b c d)) _ _ HR8.out underlying177 rfl HI.out ?_ |refine wpList_store_row rfl 177 _ _ rfl (w.heap.size+1) (Iv .u32 (jZ l a b c d)) rfl rfl _ _ HZ8.out HI.out HZ.out (aG _ _) ?_)
 refine pW (cs:=Iv .u32 (jZ l a b c d)) results107 ?_ (setRow_heap _ _ _ _ _ _ HZ8.out) underlying177 HI.out ?_
 ·rfl
 ·exact⟨rfl,aO HB8.out _ (by omega) _⟩
theorem OI (l:LI) (w:World) (hl:l.length=16) (h:bJ l):
 Calls prog 91 #[.agg (Iv .u32 l)] w fun e w'=>e=.returned (.agg (Iv .u32 (bK l 10)))∧Below w.heap.size w w':=by
 have HI:Hid (∀L:LI,L.length=16→(prog.info? 177).map (·.size)=some (Iv .u32 L).size):=fun L hL=>by rw[aD,hL];exact OE
 have HZ:Hid (∀L M:LI,L.length=16→M.length=16→(Iv .u32 L).size=(Iv .u32 M).size):=fun L M hL hM=>by rw[aD,aD,hL,hM]
 go_enter func91,ntmps91
 go_wp2
 go_loopw [3] (fun r wr=>∃k:Nat,k≤10∧r=.int .i64 k∧aE wr w.heap.size .u32 (bK l k) 177∧aE wr (w.heap.size+1) .u32 (rQ 16 0) 177∧Below w.heap.size w wr) (fun r _=>10 - (intOf r).toNat)
 case atStart=>
  obtain⟨W,hW,h0,h1,hs,hb⟩:=iU w (.cells (Iv .u32 l) 177) (.cells (Iv .u32 (rQ 16 0)) 177)
  subst hW
  exact⟨0,by omega,rfl,h0,h1,hb⟩
 case round=>
  obtain⟨k,hk,rfl,hg,hg1,hbel⟩:=hrel
  by_cases hlt:k<10
  ·obtain⟨WX,rfl⟩:∃X,X=wr:=⟨_,rfl⟩
   go_wp2
   have hdec:decide ((k:Int)<10)=true:=by simp;omega
   simp only[hdec]
   clear hdec
   go_loopw [4] (fun r wr=>∃j:Nat,j≤8∧r=.int .i64 j∧aE wr w.heap.size .u32 (wD (bK l k) j) 177∧aE wr (w.heap.size+1) .u32 (rQ 16 0) 177∧Below w.heap.size w wr) (fun r _=>8 - (intOf r).toNat)
   case atStart=>exact⟨0,by omega,rfl,hg,hg1,hbel⟩
   case round=>
    obtain⟨j,hj,rfl,Z1,Z2,Z3⟩:=hrel
    clear hg hg1 hbel
    by_cases hltj:j<8
    ·obtain⟨l0,l1,l2,l3⟩:=afF j hltj
     obtain⟨b0,b1,b1',b2,b2',b3,b3'⟩:=afE j hltj
     have HL:Hid (wD (bK l k) (j+1)=jZ (wD (bK l k) j) (q0 j) (q1 j) (q2 j) (q3 j)):=rfl
     have hLl:(wD (bK l k) j).length=16:=by rw[sK,gP,hl]
     have hLa:bJ (wD (bK l k) j):=GH (rF h k) j
     generalize wD (bK l k) j=L at*
     have hM:(jZ L (q0 j) (q1 j) (q2 j) (q3 j)).length=16:=by rw[uW,hLl]
     have HQ:Hid (∀W,Calls prog 107 #[.agg (Iv .u32 L),.int .i64 (q0 j),.int .i64 (q1 j),.int .i64 (q2 j),.int .i64 (q3 j)] W fun e w'=>e=.returned (.agg (Iv .u32 (jZ L (q0 j) (q1 j) (q2 j) (q3 j))))∧Below W.heap.size W w'):=fun W=>KD L _ _ _ _ W hLl hLa l0 l1 l2 l3 (by omega) (by omega) (by omega) (by omega) (by omega) (by omega)
     have HC:Hid (∀W,Calls prog 105 #[.int .i64 j] W fun e w'=>e=.returned (.tuple #[.int .i64 (q0 j),.int .i64 (q1 j),.int .i64 (q2 j),.int .i64 (q3 j)])∧w'=W):=fun W=>aaY j hltj W
     generalize q0 j=p0 at*
     generalize q1 j=p1 at*
     generalize q2 j=p2 at*
     generalize q3 j=p3 at*
     clear b0 b1 b1' b2 b2' b3 b3' hLa l0 l1 l2 l3
     have HI1:=HI.out L hLl
     have HI1':Hid (_=_):=HI1
     clear HI1
     go_wp2_with fail
     refine(HC.out _).mono ?_
     rintro e w1 ⟨rfl,rfl⟩
     go_wp2_with(refine wpLr rfl 177 _ rfl w.heap.size rfl _ (Iv .u32 L) _ _ Z1 underlying177 rfl HI1'.out ?_)
     refine(HQ.out _).mono ?_
     rintro e w2 ⟨rfl,hb2⟩
     have Y1:=Z1.below hb2 Z1.lt
     have Y2:=Z2.below hb2 Z2.lt
     have Y3:Below w.heap.size w w2:=Z3.trans (hb2.mono Z3.size)
     clear Z1 Z2 Z3 hb2 HC HQ
     have HI2:Hid _:=HI.out _ hM
     have HZ2:Hid _:=HZ.out _ _ hLl hM
     have X1:Hid (aE (w2.setRow w.heap.size (Iv .u32 (jZ L p0 p1 p2 p3))) w.heap.size .u32 (jZ L p0 p1 p2 p3) 177):=Y1.put _ 0
     have X2:Hid (aE (w2.setRow w.heap.size (Iv .u32 (jZ L p0 p1 p2 p3))) (w.heap.size+1) .u32 (rQ 16 0) 177):=Y2.far _ _ (by omega) 0
     have X3:Hid (Below w.heap.size w (w2.setRow w.heap.size (Iv .u32 (jZ L p0 p1 p2 p3)))):=aO Y3 _ (nQ _) _
     go_wp2_with(refine wpList_store_row rfl 177 _ _ rfl w.heap.size (Iv .u32 (jZ L p0 p1 p2 p3)) rfl rfl _ _ Y1 HI2.out HZ2.out (aG _ _) ?_)
     go_roundw
     case rel=>exact⟨j+1,by omega,by go_num,by rw[HL.out];exact X1.out,X2.out,X3.out⟩
     case measure=>simp[intOf];omega
    ·obtain rfl:j=8:=by omega
     go_wp2
     go_roundw
     case rel=>exact⟨k+1,by omega,by go_num,Z1,Z2,Z3⟩
     case measure=>simp[intOf];omega
  ·obtain rfl:k=10:=by omega
   have hL:(bK l 10).length=16:=by rw[gP,hl]
   have HI2:Hid _:=HI.out _ hL
   have HZ2:Hid ((Iv .u32 (rQ 16 0)).size=(Iv .u32 (bK l 10)).size):=HZ.out _ _ (by simp) hL
   go_wp2_with(first|refine wpLr rfl 177 _ rfl w.heap.size rfl _ (Iv .u32 (bK l 10)) _ _ hg underlying177 rfl HI2.out ?_ |refine wpList_store_row rfl 177 _ _ rfl (w.heap.size+1) (Iv .u32 (bK l 10)) rfl rfl _ _ hg1 HI2.out HZ2.out (aG _ _) ?_)
   refine pW (cs:=Iv .u32 (bK l 10)) results91 ?_ (setRow_heap _ _ _ _ _ _ hg1) underlying177 HI2.out ?_
   ·rfl
   ·exact⟨rfl,aO hbel _ (by omega) _⟩
theorem XI:(prog.info? 177).map (·.size)=some 16:=by kernel_rfl
theorem aeR:(prog.info? 25).map (·.size)=some 32:=by kernel_rfl
def aaP:Oper:={ dst:=some 14,op:=Op.load 25 (Operand.tmp 3),type:=25,pos:= "l2_aead.go:48",after:=#[],guard:=none }
def aaQ:Oper:={ dst:=some 15,op:=Op.move (Operand.tmp 1),type:=32,pos:= "l2_aead.go:48",after:=#[],guard:=none }
def U7:Oper:={ dst:=some 16,op:=Op.buildSlice 75 1 #[(0,Operand.tmp 15)],type:=75,pos:= "l2_aead.go:48",after:=#[{ on:=1,ground:=Ground.data }],guard:=none }
def aaR:Oper:={ dst:=some 17,op:=Op.slice 30 (Operand.tmp 5) none none none,type:=22,pos:= "l2_aead.go:48",after:=#[],guard:=none }
def U8:Oper:={ dst:=some 18,op:=Op.call { callee:=Callee.value (Operand.func 24),args:=#[Operand.tmp 17,Operand.const (Value.int IntKind.i64 3)],argTypes:=#[22,3] },type:=75,pos:= "l2_aead.go:48",after:=#[{ on:=3,ground:=Ground.data }],guard:=none }
def RE:Oper:={ dst:=some 19,op:=Op.call { callee:=Callee.builtin Builtin.append,args:=#[Operand.tmp 16,Operand.tmp 18],argTypes:=#[75,75] },type:=75,pos:= "l2_aead.go:48",after:=#[{ on:=2,ground:=Ground.data },{ on:=4,ground:=Ground.data },{ on:=4,ground:=Ground.chain }],guard:=none }
def RF:Oper:={ dst:=some 20,op:=Op.call { callee:=Callee.value (Operand.func 90),args:=#[Operand.tmp 14,Operand.tmp 19],argTypes:=#[25,75] },type:=177,pos:= "l2_aead.go:48",after:=#[{ on:=0,ground:=Ground.data },{ on:=5,ground:=Ground.data },{ on:=5,ground:=Ground.chain }],guard:=none }
def aaS:Oper:={ dst:=some 7,op:=Op.alloc 177,type:=0,pos:= "l2_aead.go:48",after:=#[],guard:=none }
def OO:Oper:={ dst:=none,op:=Op.store 177 (Operand.tmp 7) (Operand.tmp 20),type:=0,pos:= "l2_aead.go:48",after:=#[{ on:=7,ground:=Ground.data },{ on:=6,ground:=Ground.data },{ on:=6,ground:=Ground.chain },{ on:=0,ground:=Ground.phase },{ on:=1,ground:=Ground.phase },{ on:=2,ground:=Ground.phase },{ on:=3,ground:=Ground.phase },{ on:=4,ground:=Ground.phase },{ on:=5,ground:=Ground.phase },{ on:=6,ground:=Ground.phase },{ on:=7,ground:=Ground.phase }],guard:=none }
def pO:Array Oper:=#[aaP,aaQ,U7,aaR,U8,RE,RF,aaS,OO]
def LV (key nonce:LI) (counter:Int) (b:Nat) (x7 x14 x15 x16 x17 x18 x19 x20:Value):Act:=
 { tmps:=#[.agg (Iv .u8 key),.int .u32 counter,.agg (Iv .u8 nonce),.pointer (some ⟨b,0,none⟩),undef,.pointer (some ⟨b+1,0,none⟩),.pointer (some ⟨b+1+1,0,none⟩),x7,undef,undef,undef,undef,undef,undef,x14,x15,x16,x17,x18,x19,x20,undef,undef,undef,undef,undef,undef,undef,undef,undef,undef,undef,undef,undef,undef,undef,undef,undef,undef,undef,undef,undef,undef,undef,undef,undef,undef,undef,undef,undef,undef,undef],defers:=[] }
def Lb (listed:Array Bool) (i:Nat):Bool:=listed.getD i false
theorem aR {listed:Array Bool} {i j:Nat} (h:i≠j):Lb (listed.setIfInBounds i true) j=Lb listed j:=getD_set_ne false h
theorem kP {listed:Array Bool} {i:Nat} (h:i<listed.size):Lb (listed.setIfInBounds i true) i=true:=by simp[Lb,h]
def nP (key:LI) (counter:Int) (ws:LI):LI:=pF9 (pF9 mN 4 (aF key) 8) 12 (aM (counter::ws)) 4
structure yN (key nonce:LI) (counter:Int) (b:Nat) (W:World) (ws:LI) (listed:Array Bool) (w:World) (x7 x14 x15 x16 x17 x18 x19 x20:Value):Prop where
 size:listed.size=9
 bel:Below W.heap.size W w
 p0:Lb listed 0=true→x14=.agg (Iv .u8 key)
 p1:Lb listed 1=true→x15=.int .u32 counter
 p3:Lb listed 3=true→x17=.slice (some ⟨b+1,0,none⟩) 12 12
 p2:Lb listed 2=true→Lb listed 5=true∨bM .u32 32 W.heap.size w x16 [counter]
 p4:Lb listed 4=true→Lb listed 5=true∨bM .u32 32 W.heap.size w x18 ws
 p5:Lb listed 5=true→Lb listed 6=true∨bM .u32 32 W.heap.size w x19 (counter::ws)
 p6:Lb listed 6=true→x20=.agg (Iv .u32 (nP key counter ws))
 p8:Lb listed 8=true→Lb listed 7=true
 p7:Lb listed 7=true→∃g,x7=.pointer (some ⟨g,0,none⟩)∧W.heap.size≤g∧w.heap[g]? =some (.cells (Iv .u32 (if Lb listed 8 then nP key counter ws else aA 16)) 177)∧(Lb listed 2=true→Lb listed 5=true∨x16.ownBlock≠some g)
def sO (key nonce:LI) (counter:Int) (b:Nat) (W:World) (ws:LI) (listed:Array Bool) (a:Act) (w:World):Prop:=
 ∃x7 x14 x15 x16 x17 x18 x19 x20,a=LV key nonce counter b x7 x14 x15 x16 x17 x18 x19 x20∧yN key nonce counter b W ws listed w x7 x14 x15 x16 x17 x18 x19 x20
theorem kZ {listed:Array Bool} (hs:listed.size=9) (hr:Region.ready .any pO listed=[]) {i:Nat} (o:Oper) (ho:pO[i]? =some o) (hi:i<9) (hdep:∀e∈o.after,Lb listed e.on=true):Lb listed i=true:=by
 cases hb:Lb listed i with
 | true=>rfl
 | false=>
   have h1:listed.getD i true=false:=by
    have hlt:i<listed.size:=by omega
    simp only[Lb,Array.getD,hlt,dif_pos]at hb⊢
    exact hb
   have:i∈Region.ready .any pO listed:=mem_ready.2 ⟨h1,o,ho,fun e he _=>hdep e he⟩
   rw[hr]at this
   cases this
theorem aeH {listed:Array Bool} (hs:listed.size=9) (hr:Region.ready .any pO listed=[]):Lb listed 7=true∧Lb listed 8=true:=by
 have l0:=kZ hs hr (i:=0) aaP rfl (by omega) (by unfold aaP;simp only[List.mem_toArray,nY,false_implies,implies_true])
 have l1:=kZ hs hr (i:=1) aaQ rfl (by omega) (by unfold aaQ;simp only[List.mem_toArray,nY,false_implies,implies_true])
 have l3:=kZ hs hr (i:=3) aaR rfl (by omega) (by unfold aaR;simp only[List.mem_toArray,nY,false_implies,implies_true])
 have l7:=kZ hs hr (i:=7) aaS rfl (by omega) (by unfold aaS;simp only[List.mem_toArray,nY,false_implies,implies_true])
 have l2:=kZ hs hr (i:=2) U7 rfl (by omega) (by unfold U7;simp only[List.mem_toArray,List.mem_cons,nY,or_false,forall_eq,l1])
 have l4:=kZ hs hr (i:=4) U8 rfl (by omega) (by unfold U8;simp only[List.mem_toArray,List.mem_cons,nY,or_false,forall_eq,l3])
 have l5:=kZ hs hr (i:=5) RE rfl (by omega) (by unfold RE;simp only[List.mem_toArray,List.mem_cons,nY,or_false,forall_eq_or_imp,forall_eq,l2,l4,and_self])
 have l6:=kZ hs hr (i:=6) RF rfl (by omega) (by unfold RF;simp only[List.mem_toArray,List.mem_cons,nY,or_false,forall_eq_or_imp,forall_eq,l0,l5,and_self])
 have l8:=kZ hs hr (i:=8) OO rfl (by omega) (by unfold OO;simp only[List.mem_toArray,List.mem_cons,nY,or_false,forall_eq_or_imp,forall_eq,l0,l1,l2,l3,l4,l5,l6,l7,and_self])
 exact⟨l7,l8⟩
theorem pY {listed:Array Bool} {i:Nat} (h:i∈Region.ready .any pO listed) (o:Oper) (ho:pO[i]? =some o):listed.getD i true=false∧∀e∈o.after,Region.binds .any e=true→Lb listed e.on=true:=by
 obtain⟨h1,o',ho',hd⟩:=mem_ready.1 h
 rw[ho]at ho'
 cases ho'
 exact⟨h1,hd⟩
theorem uP {listed:Array Bool} {i:Nat} (h:listed.getD i true=false):i<listed.size∧Lb listed i=false:=by
 have hlt:i<listed.size:=by
  rcases Nat.lt_or_ge i listed.size with h1|h1
  ·exact h1
  ·simp[Array.getD,Nat.not_lt.2 h1]at h
 refine⟨hlt,?_⟩
 simp only[Lb,Array.getD,hlt,dif_pos]at h⊢
 exact h
section
variable {key nonce:LI} {counter:Int} {b:Nat} {W:World} {ws:LI} {listed:Array Bool} {w:World} {x7 x14 x15 x16 x17 x18 x19 x20:Value} {Q:Exit→Act→World→Prop}
theorem agT (h:yN key nonce counter b W ws listed w x7 x14 x15 x16 x17 x18 x19 x20) (hi:0∈Region.ready .any pO listed) (hk:key.length=32) (hk0:W.heap[b]? =some (.cells (Iv .u8 key) 25)) (hb0:b<W.heap.size):
 wpList prog pO (dX (sO key nonce counter b W ws (listed.setIfInBounds 0 true)) Q) [aaP] (LV key nonce counter b x7 x14 x15 x16 x17 x18 x19 x20) w:=by
 obtain⟨hn1,hdep⟩:=pY hi aaP rfl
 obtain⟨hlt,hno⟩:=uP hn1
 have G0:Hid _:=(h.bel.block b hb0).trans hk0
 have hik:Hid ((prog.info? 25).map (·.size)=some (Iv .u8 key).size):=by show _=_;rw[aD,hk];exact aeR
 have HH:Hid _:=h
 clear h hdep hn1 hk0
 unfold LV aaP
 go_wp2_with(refine wpLr rfl 25 _ rfl b rfl _ (Iv .u8 key) _ _ G0.out underlying25 rfl hik.out ?_)
 have h:=HH.out
 have hb:=Below.refl w.heap.size w
 refine⟨_,_,_,_,_,_,_,_,rfl,{ 
  size:=by simpa using h.size
  bel:=h.bel.trans (hb.mono h.bel.size)
  p0:=fun _=>rfl
  p1:=fun hl=>h.p1 (by rwa[aR (by omega)]at hl)
  p3:=fun hl=>h.p3 (by rwa[aR (by omega)]at hl)
  p6:=fun hl=>h.p6 (by rwa[aR (by omega)]at hl)
  p2:=fun hl=>(h.p2 (by rwa[aR (by omega)]at hl)).imp (fun e=>by rw[aR (by omega)];exact e) (fun o=>o.later hb)
  p4:=fun hl=>(h.p4 (by rwa[aR (by omega)]at hl)).imp (fun e=>by rw[aR (by omega)];exact e) (fun o=>o.later hb)
  p5:=fun hl=>(h.p5 (by rwa[aR (by omega)]at hl)).imp (fun e=>by rw[aR (by omega)];exact e) (fun o=>o.later hb)
  p7:=fun hl=>by
   obtain⟨g,e1,e2,e3,e4⟩:=h.p7 (by rwa[aR (by omega)]at hl)
   refine⟨g,e1,e2,?_,fun hl2=>(e4 (by rwa[aR (by omega)]at hl2)).imp (fun e=>by rw[aR (by omega)];exact e) id⟩
   rw[aR (by omega),hb.block g (Array.getElem?_eq_some_iff.1 e3).1]
   exact e3
  p8:=fun hl=>by first|(rw[aR (by omega)]at hl⊢;exact h.p8 hl)|exact kP hlt }⟩
theorem agU (h:yN key nonce counter b W ws listed w x7 x14 x15 x16 x17 x18 x19 x20) (hi:1∈Region.ready .any pO listed):
 wpList prog pO (dX (sO key nonce counter b W ws (listed.setIfInBounds 1 true)) Q) [aaQ] (LV key nonce counter b x7 x14 x15 x16 x17 x18 x19 x20) w:=by
 obtain⟨hn1,hdep⟩:=pY hi aaQ rfl
 obtain⟨hlt,hno⟩:=uP hn1
 have HH:Hid _:=h
 clear h hdep hn1
 unfold LV aaQ
 go_wp2_with fail
 have h:=HH.out
 have hb:=Below.refl w.heap.size w
 refine⟨_,_,_,_,_,_,_,_,rfl,{ 
  size:=by simpa using h.size
  bel:=h.bel.trans (hb.mono h.bel.size)
  p0:=fun hl=>h.p0 (by rwa[aR (by omega)]at hl)
  p1:=fun _=>rfl
  p3:=fun hl=>h.p3 (by rwa[aR (by omega)]at hl)
  p6:=fun hl=>h.p6 (by rwa[aR (by omega)]at hl)
  p2:=fun hl=>(h.p2 (by rwa[aR (by omega)]at hl)).imp (fun e=>by rw[aR (by omega)];exact e) (fun o=>o.later hb)
  p4:=fun hl=>(h.p4 (by rwa[aR (by omega)]at hl)).imp (fun e=>by rw[aR (by omega)];exact e) (fun o=>o.later hb)
  p5:=fun hl=>(h.p5 (by rwa[aR (by omega)]at hl)).imp (fun e=>by rw[aR (by omega)];exact e) (fun o=>o.later hb)
  p7:=fun hl=>by
   obtain⟨g,e1,e2,e3,e4⟩:=h.p7 (by rwa[aR (by omega)]at hl)
   refine⟨g,e1,e2,?_,fun hl2=>(e4 (by rwa[aR (by omega)]at hl2)).imp (fun e=>by rw[aR (by omega)];exact e) id⟩
   rw[aR (by omega),hb.block g (Array.getElem?_eq_some_iff.1 e3).1]
   exact e3
  p8:=fun hl=>by first|(rw[aR (by omega)]at hl⊢;exact h.p8 hl)|exact kP hlt }⟩
theorem agW (h:yN key nonce counter b W ws listed w x7 x14 x15 x16 x17 x18 x19 x20) (hi:3∈Region.ready .any pO listed):
 wpList prog pO (dX (sO key nonce counter b W ws (listed.setIfInBounds 3 true)) Q) [aaR] (LV key nonce counter b x7 x14 x15 x16 x17 x18 x19 x20) w:=by
 obtain⟨hn1,hdep⟩:=pY hi aaR rfl
 obtain⟨hlt,hno⟩:=uP hn1
 have HH:Hid _:=h
 clear h hdep hn1
 unfold LV aaR
 go_wp2_with fail
 have h:=HH.out
 have hb:=Below.refl w.heap.size w
 refine⟨_,_,_,_,_,_,_,_,rfl,{ 
  size:=by simpa using h.size
  bel:=h.bel.trans (hb.mono h.bel.size)
  p0:=fun hl=>h.p0 (by rwa[aR (by omega)]at hl)
  p1:=fun hl=>h.p1 (by rwa[aR (by omega)]at hl)
  p3:=fun _=>rfl
  p6:=fun hl=>h.p6 (by rwa[aR (by omega)]at hl)
  p2:=fun hl=>(h.p2 (by rwa[aR (by omega)]at hl)).imp (fun e=>by rw[aR (by omega)];exact e) (fun o=>o.later hb)
  p4:=fun hl=>(h.p4 (by rwa[aR (by omega)]at hl)).imp (fun e=>by rw[aR (by omega)];exact e) (fun o=>o.later hb)
  p5:=fun hl=>(h.p5 (by rwa[aR (by omega)]at hl)).imp (fun e=>by rw[aR (by omega)];exact e) (fun o=>o.later hb)
  p7:=fun hl=>by
   obtain⟨g,e1,e2,e3,e4⟩:=h.p7 (by rwa[aR (by omega)]at hl)
   refine⟨g,e1,e2,?_,fun hl2=>(e4 (by rwa[aR (by omega)]at hl2)).imp (fun e=>by rw[aR (by omega)];exact e) id⟩
   rw[aR (by omega),hb.block g (Array.getElem?_eq_some_iff.1 e3).1]
   exact e3
  p8:=fun hl=>by first|(rw[aR (by omega)]at hl⊢;exact h.p8 hl)|exact kP hlt }⟩
theorem agV (h:yN key nonce counter b W ws listed w x7 x14 x15 x16 x17 x18 x19 x20) (hi:2∈Region.ready .any pO listed):
 wpList prog pO (dX (sO key nonce counter b W ws (listed.setIfInBounds 2 true)) Q) [U7] (LV key nonce counter b x7 x14 x15 x16 x17 x18 x19 x20) w:=by
 obtain⟨hn1,hdep⟩:=pY hi U7 rfl
 obtain⟨hlt,hno⟩:=uP hn1
 have l1:Lb listed 1=true:=hdep { on:=1,ground:=Ground.data } (by unfold U7;simp) rfl
 obtain rfl:=h.p1 l1
 have HH:Hid _:=h
 clear h hdep hn1
 unfold LV U7
 go_wp2_with fail
 have h:=HH.out
 have hb:Below w.heap.size w (w.alloc (.cells #[.int .u32 counter] 32)):=(Below.refl _ _).alloc (nQ _) _
 refine⟨_,_,_,_,_,_,_,_,rfl,{ 
  size:=by simpa using h.size
  bel:=h.bel.trans (hb.mono h.bel.size)
  p0:=fun hl=>h.p0 (by rwa[aR (by omega)]at hl)
  p1:=fun hl=>h.p1 (by rwa[aR (by omega)]at hl)
  p3:=fun hl=>h.p3 (by rwa[aR (by omega)]at hl)
  p6:=fun hl=>h.p6 (by rwa[aR (by omega)]at hl)
  p2:=fun _=>.inr (bM.one w counter h.bel.size)
  p4:=fun hl=>(h.p4 (by rwa[aR (by omega)]at hl)).imp (fun e=>by rw[aR (by omega)];exact e) (fun o=>o.later hb)
  p5:=fun hl=>(h.p5 (by rwa[aR (by omega)]at hl)).imp (fun e=>by rw[aR (by omega)];exact e) (fun o=>o.later hb)
  p7:=fun hl=>by
   obtain⟨g,e1,e2,e3,e4⟩:=h.p7 (by rwa[aR (by omega)]at hl)
   have hg:=(Array.getElem?_eq_some_iff.1 e3).1
   refine⟨g,e1,e2,?_,fun _=>.inr ?_⟩
   ·rw[aR (by omega),hb.block g hg]
    exact e3
   ·intro e
    have:w.heap.size=g:=by simpa[Value.ownBlock]using e
    omega
  p8:=fun hl=>by first|(rw[aR (by omega)]at hl⊢;exact h.p8 hl)|exact kP hlt }⟩
theorem agX (h:yN key nonce counter b W ws listed w x7 x14 x15 x16 x17 x18 x19 x20) (hi:4∈Region.ready .any pO listed) (hr:nonce.length=12) (hrb:aC nonce) (hn0:W.heap[b+1]? =some (.cells (Iv .u8 nonce) 30)) (hb0:b+1<W.heap.size) (hws:ws=bI nonce 3):
 wpList prog pO (dX (sO key nonce counter b W ws (listed.setIfInBounds 4 true)) Q) [U8] (LV key nonce counter b x7 x14 x15 x16 x17 x18 x19 x20) w:=by
 obtain⟨hn1,hdep⟩:=pY hi U8 rfl
 obtain⟨hlt,hno⟩:=uP hn1
 have l3:Lb listed 3=true:=hdep { on:=3,ground:=Ground.data } (by unfold U8;simp) rfl
 obtain rfl:=h.p3 l3
 have hrow:=(h.bel.block (b+1) hb0).trans hn0
 have hrd:RdK .u8 w (some ⟨b+1,0,none⟩) nonce:=by
  intro i hi
  refine⟨b+1,0,rfl,?_⟩
  rw[Nat.zero_add,cell_of_row _ _ _ _ _ _ hrow,dG .u8 _ i hi,List.getD_eq_getElem?_getD,List.getElem?_eq_getElem hi]
  rfl
 have hcall:=yC nonce 12 3 hr hrb (by omega) (by omega) (some ⟨b+1,0,none⟩) 12 w hrd
 have HC:Hid _:=hcall
 have HH:Hid _:=h
 clear h hdep hn1 hrow hrd hcall hn0
 unfold LV U8
 go_wp2_with fail
 refine Calls.mono HC.out ?_
 rintro e w' ⟨v,rfl,ho,hb⟩
 rw[←hws]at ho
 go_wp2_with fail
 have h:=HH.out
 refine⟨_,_,_,_,_,_,_,_,rfl,{ 
  size:=by simpa using h.size
  bel:=h.bel.trans (hb.mono h.bel.size)
  p0:=fun hl=>h.p0 (by rwa[aR (by omega)]at hl)
  p1:=fun hl=>h.p1 (by rwa[aR (by omega)]at hl)
  p3:=fun hl=>h.p3 (by rwa[aR (by omega)]at hl)
  p6:=fun hl=>h.p6 (by rwa[aR (by omega)]at hl)
  p2:=fun hl=>(h.p2 (by rwa[aR (by omega)]at hl)).imp (fun e=>by rw[aR (by omega)];exact e) (fun o=>o.later hb)
  p4:=fun _=>.inr (ho.mono h.bel.size)
  p5:=fun hl=>(h.p5 (by rwa[aR (by omega)]at hl)).imp (fun e=>by rw[aR (by omega)];exact e) (fun o=>o.later hb)
  p7:=fun hl=>by
   obtain⟨g,e1,e2,e3,e4⟩:=h.p7 (by rwa[aR (by omega)]at hl)
   refine⟨g,e1,e2,?_,fun hl2=>(e4 (by rwa[aR (by omega)]at hl2)).imp (fun e=>by rw[aR (by omega)];exact e) id⟩
   rw[aR (by omega),hb.block g (Array.getElem?_eq_some_iff.1 e3).1]
   exact e3
  p8:=fun hl=>by first|(rw[aR (by omega)]at hl⊢;exact h.p8 hl)|exact kP hlt }⟩
theorem agY (h:yN key nonce counter b W ws listed w x7 x14 x15 x16 x17 x18 x19 x20) (hi:5∈Region.ready .any pO listed) (hwl:ws.length=3):
 wpList prog pO (dX (sO key nonce counter b W ws (listed.setIfInBounds 5 true)) Q) [RE] (LV key nonce counter b x7 x14 x15 x16 x17 x18 x19 x20) w:=by
 obtain⟨hn1,hdep⟩:=pY hi RE rfl
 obtain⟨hlt,hno⟩:=uP hn1
 have l2:Lb listed 2=true:=hdep { on:=2,ground:=Ground.data } (by unfold RE;simp) rfl
 have l4:Lb listed 4=true:=hdep { on:=4,ground:=Ground.data } (by unfold RE;simp) rfl
 have o16:=(h.p2 l2).resolve_left (by rw[hno];simp)
 have o18:=(h.p4 l4).resolve_left (by rw[hno];simp)
 obtain⟨_,hbad⟩|⟨g18,c18,rfl,_,hg18,_,_,hcell,_⟩:=o18.at
 ·rw[hbad]at hwl;simp at hwl
 have HO:Hid _:=o16
 have HB:Hid _:=h.bel
 have HN:Hid (∀j,j<3→w.cell? ⟨g18,0+j,none⟩=some (.int .u32 (ws.getD j 0))):=fun j hj=>by rw[Nat.zero_add];exact hcell j (by omega)
 have HL:Hid (ws.length=3):=hwl
 have HH:Hid _:=h
 rw[hwl]
 clear h hdep hn1 o16 o18 hcell
 unfold LV RE
 refine bU .u32 75 32 4 underlying75 uS (by decide) rfl (.tmp 16) (.tmp 18) rfl W.heap.size W w x16 [counter] g18 0 3 c18 ws HL.out rfl rfl HO.out HB.out HB.out.size (by simp) HN.out ?_
 intro v' w' ho hb2 hgr hblk
 simp only[pS]
 go_wp2_with fail
 have h:=HH.out
 refine⟨_,_,_,_,_,_,_,_,rfl,{ 
  size:=by simpa using h.size
  bel:=hb2
  p0:=fun hl=>h.p0 (by rwa[aR (by omega)]at hl)
  p1:=fun hl=>h.p1 (by rwa[aR (by omega)]at hl)
  p3:=fun hl=>h.p3 (by rwa[aR (by omega)]at hl)
  p6:=fun hl=>h.p6 (by rwa[aR (by omega)]at hl)
  p2:=fun _=>.inl (kP hlt)
  p4:=fun _=>.inl (kP hlt)
  p5:=fun _=>.inr ho
  p7:=fun hl=>by
   obtain⟨g,e1,e2,e3,e4⟩:=h.p7 (by rwa[aR (by omega)]at hl)
   refine⟨g,e1,e2,?_,fun _=>.inl (kP hlt)⟩
   rw[aR (by omega),hgr.block g (Array.getElem?_eq_some_iff.1 e3).1 (fun e=>((e4 l2).resolve_left (by rw[hno];simp)) e.symm)]
   exact e3
  p8:=fun hl=>by first|(rw[aR (by omega)]at hl⊢;exact h.p8 hl)|exact kP hlt }⟩
theorem agZ (h:yN key nonce counter b W ws listed w x7 x14 x15 x16 x17 x18 x19 x20) (hi:6∈Region.ready .any pO listed) (hk:key.length=32) (hkb:aC key) (hwl:ws.length=3):
 wpList prog pO (dX (sO key nonce counter b W ws (listed.setIfInBounds 6 true)) Q) [RF] (LV key nonce counter b x7 x14 x15 x16 x17 x18 x19 x20) w:=by
 obtain⟨hn1,hdep⟩:=pY hi RF rfl
 obtain⟨hlt,hno⟩:=uP hn1
 have l0:Lb listed 0=true:=hdep { on:=0,ground:=Ground.data } (by unfold RF;simp) rfl
 have l5:Lb listed 5=true:=hdep { on:=5,ground:=Ground.data } (by unfold RF;simp) rfl
 obtain rfl:=h.p0 l0
 have o19:=(h.p5 l5).resolve_left (by rw[hno];simp)
 obtain⟨a,n,cap,rfl,hn,hrd⟩:=o19.rdk
 have hn4:n=4:=by rw[hn];simp[hwl]
 subst hn4
 have hcall:=QX key (counter::ws) 4 w hk hkb (by simp[hwl]) (by omega) a cap hrd
 have HC:Hid _:=hcall
 have HH:Hid _:=h
 clear h hdep hn1 hcall hrd o19 hn
 unfold LV RF
 go_wp2_with fail
 refine Calls.mono HC.out ?_
 rintro e w' ⟨rfl,hb⟩
 go_wp2_with fail
 have h:=HH.out
 refine⟨_,_,_,_,_,_,_,_,rfl,{ 
  size:=by simpa using h.size
  bel:=h.bel.trans (hb.mono h.bel.size)
  p0:=fun hl=>h.p0 (by rwa[aR (by omega)]at hl)
  p1:=fun hl=>h.p1 (by rwa[aR (by omega)]at hl)
  p3:=fun hl=>h.p3 (by rwa[aR (by omega)]at hl)
  p6:=fun _=>rfl
  p2:=fun hl=>(h.p2 (by rwa[aR (by omega)]at hl)).imp (fun e=>by rw[aR (by omega)];exact e) (fun o=>o.later hb)
  p4:=fun hl=>(h.p4 (by rwa[aR (by omega)]at hl)).imp (fun e=>by rw[aR (by omega)];exact e) (fun o=>o.later hb)
  p5:=fun _=>.inl (kP hlt)
  p7:=fun hl=>by
   obtain⟨g,e1,e2,e3,e4⟩:=h.p7 (by rwa[aR (by omega)]at hl)
   refine⟨g,e1,e2,?_,fun hl2=>(e4 (by rwa[aR (by omega)]at hl2)).imp (fun e=>by rw[aR (by omega)];exact e) id⟩
   rw[aR (by omega),hb.block g (Array.getElem?_eq_some_iff.1 e3).1]
   exact e3
  p8:=fun hl=>by first|(rw[aR (by omega)]at hl⊢;exact h.p8 hl)|exact kP hlt }⟩
theorem ag0 (h:yN key nonce counter b W ws listed w x7 x14 x15 x16 x17 x18 x19 x20) (hi:7∈Region.ready .any pO listed):
 wpList prog pO (dX (sO key nonce counter b W ws (listed.setIfInBounds 7 true)) Q) [aaS] (LV key nonce counter b x7 x14 x15 x16 x17 x18 x19 x20) w:=by
 obtain⟨hn1,hdep⟩:=pY hi aaS rfl
 obtain⟨hlt,hno⟩:=uP hn1
 have hzv:∀W,(zeroValue 177).run prog W=.ok (.agg (Iv .u32 (aA 16))) W:=(zero_of_info (n:=16) (by kernel_rfl)).1
 have hno8:Lb listed 8=false:=by
  cases h8:Lb listed 8 with
  | false=>rfl
  | true=>exact absurd (h.p8 h8) (by rw[hno];simp)
 have HH:Hid _:=h
 clear h hdep hn1
 unfold LV aaS
 go_wp2_with fail
 have h:=HH.out
 have hb:Below w.heap.size w (w.alloc (.cells (Iv .u32 (aA 16)) 177)):=(Below.refl _ _).alloc (nQ _) _
 refine⟨_,_,_,_,_,_,_,_,rfl,{ 
  size:=by simpa using h.size
  bel:=h.bel.trans (hb.mono h.bel.size)
  p0:=fun hl=>h.p0 (by rwa[aR (by omega)]at hl)
  p1:=fun hl=>h.p1 (by rwa[aR (by omega)]at hl)
  p3:=fun hl=>h.p3 (by rwa[aR (by omega)]at hl)
  p6:=fun hl=>h.p6 (by rwa[aR (by omega)]at hl)
  p2:=fun hl=>(h.p2 (by rwa[aR (by omega)]at hl)).imp (fun e=>by rw[aR (by omega)];exact e) (fun o=>o.later hb)
  p4:=fun hl=>(h.p4 (by rwa[aR (by omega)]at hl)).imp (fun e=>by rw[aR (by omega)];exact e) (fun o=>o.later hb)
  p5:=fun hl=>(h.p5 (by rwa[aR (by omega)]at hl)).imp (fun e=>by rw[aR (by omega)];exact e) (fun o=>o.later hb)
  p7:=fun _=>by
   refine⟨w.heap.size,rfl,h.bel.size,?_,fun hl2=>?_⟩
   ·rw[aR (by omega),hno8]
    exact hAN _ _
   ·rw[aR (by omega)]at hl2⊢
    refine(h.p2 hl2).imp id (fun o e=>?_)
    have:=(o.lt _ e).2
    omega
  p8:=fun hl=>by first|(rw[aR (by omega)]at hl⊢;exact h.p8 hl)|exact kP hlt }⟩
theorem ag1 (h:yN key nonce counter b W ws listed w x7 x14 x15 x16 x17 x18 x19 x20) (hi:8∈Region.ready .any pO listed) (hst:(nP key counter ws).length=16):
 wpList prog pO (dX (sO key nonce counter b W ws (listed.setIfInBounds 8 true)) Q) [OO] (LV key nonce counter b x7 x14 x15 x16 x17 x18 x19 x20) w:=by
 obtain⟨hn1,hdep⟩:=pY hi OO rfl
 obtain⟨hlt,hno⟩:=uP hn1
 have l7:Lb listed 7=true:=hdep { on:=7,ground:=Ground.data } (by unfold OO;simp) rfl
 have l6:Lb listed 6=true:=hdep { on:=6,ground:=Ground.data } (by unfold OO;simp) rfl
 have l5:Lb listed 5=true:=hdep { on:=5,ground:=Ground.phase } (by unfold OO;simp) rfl
 obtain rfl:=h.p6 l6
 obtain⟨g,rfl,hg,hrow,_⟩:=h.p7 l7
 rw[hno,if_neg (by simp)]at hrow
 have HR:Hid _:=hrow
 have hik:Hid ((prog.info? 177).map (·.size)=some (Iv .u32 (nP key counter ws)).size):=by show _=_;rw[aD,hst];exact XI
 have hiz:Hid ((Iv .u32 (aA 16)).size=(Iv .u32 (nP key counter ws)).size):=by show _=_;rw[aD,aD,hst];rfl
 have HH:Hid _:=h
 clear h hdep hn1 hrow hst
 unfold LV OO
 refine wpPr rfl 177 (.tmp 7) (.tmp 20) rfl g (Iv .u32 (nP key counter ws)) rfl rfl _ _ HR.out hik.out hiz.out (aG _ _) ?_
 intro w' hP
 simp only[Act.put]
 go_wp2_with fail
 have h:=HH.out
 refine⟨_,_,_,_,_,_,_,_,rfl,{ 
  size:=by simpa using h.size
  bel:=hP.below _ _ h.bel hg
  p0:=fun hl=>h.p0 (by rwa[aR (by omega)]at hl)
  p1:=fun hl=>h.p1 (by rwa[aR (by omega)]at hl)
  p3:=fun hl=>h.p3 (by rwa[aR (by omega)]at hl)
  p6:=fun hl=>h.p6 (by rwa[aR (by omega)]at hl)
  p2:=fun _=>.inl (by rw[aR (by omega)];exact l5)
  p4:=fun _=>.inl (by rw[aR (by omega)];exact l5)
  p5:=fun _=>.inl (by rw[aR (by omega)];exact l6)
  p7:=fun _=>by
   refine⟨g,rfl,hg,?_,fun _=>.inl (by rw[aR (by omega)];exact l5)⟩
   rw[kP hlt,if_pos rfl]
   exact hP.here
  p8:=fun _=>by rw[aR (by omega)];exact l7 }⟩
end
end Go.Proofs.YtmjccemdldidaaaGreatDoor
