import Derived.Test.YtgcepckaolkeoaaGreatDoorMZ19
namespace Go.Proofs.YtgcepckaolkeoaaGreatDoor
open Go.RowKit
open Go.Proofs.Tryz
open Go renaming heap_alloc_new → hAN, rounds_succ → rdS, wpList_load_row → wpLr, wpQuiet_nil → wqN
open Go.World renaming size_alloc → wU
open List renaming drop_succ_cons → dJ, drop_zero → dY, length_map → lU, mem_append → mY, take_succ_cons → tU, take_zero → tJ
open Nat renaming le_refl → nQ, lt_of_lt_of_le → nJ
set_option linter.unusedVariables false
set_option maxRecDepth 10000 in
set_option maxHeartbeats 2000000 in
theorem I7 (HPO:Hid (FP 140)) (key nonce:List Int) (hk:key.length=32) (hr:nonce.length=12) (B:Nat→List Int) (hB:∀i,(B i).length=64) (HC:Hid (zN 139 key nonce B jO)) (hBb:∀i,aE (B i))
 (text E:List Int) (n m:Nat) (hn:text.length=n) (hm:E.length=m) (hn2:n≤65536) (hm2:m≤65536) (htb:aE text) (hEb:aE E) (tg to_ tc eg eo ec:Nat) (w:World) (HST:Hid (Sl w tg to_ text)) (HSE:Hid (Sl w eg eo E)) (htc:n≤tc) (htc2:tc≤9223372036854775807) (HT:Hid (jO w)):
 Calls prog 110 #[.agg (Iv .u8 key),.agg (Iv .u8 nonce),.slice (some ⟨tg,to_,none⟩) n tc,.slice (some ⟨eg,eo,none⟩) m ec] w fun e w'=>∃v,e=.returned v∧bX .u8 5 w.heap.size w' v (qF B E text)∧v.ownBlock≠none∧Below w.heap.size w w':=by
 have hzv:=A4
 have hi32:Hid ((prog.info? 22).map (·.size)=some (Iv .u8 key).size):=by show _=_;rw[aC,hk];exact rY
 have hi12:Hid ((prog.info? 24).map (·.size)=some (Iv .u8 nonce).size):=by show _=_;rw[aC,hr];exact uU
 have hi16:Hid (∀l:List Int,l.length=16→(prog.info? 27).map (·.size)=some (Iv .u8 l).size):=fun l hl=>by rw[aC,hl];exact AU
 have hz16:Hid (∀l:List Int,l.length=16→(Iv .u8 (aA 16)).size=(Iv .u8 l).size):=fun l hl=>by rw[aC,aC,hl];simp[aA]
 obtain⟨W,hW,g0,g1,hs,hBW⟩:=kG w (.cells (Iv .u8 key) 22) (.cells (Iv .u8 nonce) 24)
 have HW:Hid _:=hW
 have G0:Hid _:=g0
 have G1:Hid _:=g1
 have GB:Hid _:=hBW
 have TS:Hid _:=Sl.later HST.out hBW HST.out.1
 have ES:Hid _:=Sl.later HSE.out hBW HSE.out.1
 have HT2:Hid _:=jO.later HT.out hBW (nQ _)
 clear hW g0 g1 hBW
 have h1i:((65536:Int)<n)=False:=by simp;omega
 have h2i:((65536:Int)<m)=False:=by simp;omega
 obtain⟨Hd,hHd⟩:∃x,x=lH B text n:=⟨_,rfl⟩
 have hHl:Hd.length=n:=by rw[hHd,iR]
 have hHb:aE Hd:=by rw[hHd];exact xB _ _ _
 obtain⟨T,hT⟩:∃x,OP B E Hd=x:=⟨_,rfl⟩
 have hTl:T.length=16:=by rw[←hT];exact rK _ _
 have HSL:Hid (qF B E text=Hd++T):=by show _=_;unfold qF;rw[hn,←hHd,hT]
 have HTT:Hid _:=hT
 have HHd:Hid _:=hHd
 clear hT hHd
 go_enter func110,ntmps110
 go_wp2_with(with_reducible refine aI ?_;first
  | (rw[HW.out];refine sH ?_))
 refine aG ?_
 go_wp2_with(with_reducible refine aI ?_;first
  | refine wpLr rfl 22 _ rfl w.heap.size rfl _ (Iv .u8 key) _ _ G0.out underlying22 rfl hi32.out ?_
  | refine wpLr rfl 24 _ rfl (w.heap.size+1) rfl _ (Iv .u8 nonce) _ _ G1.out underlying24 rfl hi12.out ?_)
 refine(JZ key nonce hk hr B hB HC hBb text n hn hn2 htb tg to_ tc W TS htc htc2 HT2).mono ?_
 rintro e w3 ⟨g3,rfl,o3,b3⟩
 have n3:(Value.slice (some ⟨g3,0,none⟩) n (n+16)).ownBlock≠none:=by simp[Value.ownBlock]
 obtain⟨c3,ec3⟩:∃c,c=n+16:=⟨_,rfl⟩
 rw[←ec3]at o3 n3⊢
 clear ec3
 rw[←HHd.out]at o3
 have S3:Hid _:=Sl.of_own o3
 have O3:Hid _:=o3
 have N3:Hid _:=n3
 have B3:Hid (Below W.heap.size W w3):=b3
 have K0:Hid _:=(b3.block _ (by omega)).trans G0.out
 have K1:Hid _:=(b3.block _ (by omega)).trans G1.out
 have E3:Hid _:=Sl.later ES.out b3 ES.out.1
 have HT3:Hid (jO w3):=jO.later HT2.out b3 (nQ _)
 clear o3 n3 b3 G0 G1 TS ES
 go_wp2_with(with_reducible refine aI ?_;first
  | refine wpLr rfl 22 _ rfl w.heap.size rfl _ (Iv .u8 key) _ _ K0.out underlying22 rfl hi32.out ?_
  | refine wpLr rfl 24 _ rfl (w.heap.size+1) rfl _ (Iv .u8 nonce) _ _ K1.out underlying24 rfl hi12.out ?_)
 refine(MX HPO key nonce hk hr B hB HC hBb Hd E n m hHl hm hn2 hm2 hHb hEb g3 0 c3 eg eo ec w3 S3 E3 HT3 T HTT).mono ?_
 rintro e w4 ⟨rfl,b4⟩
 have hs4:=b4.size
 have K4:Hid ((w4.alloc (.cells (Iv .u8 (aA 16)) 27)).heap[w4.heap.size]? =some (.cells (Iv .u8 (aA 16)) 27)):=hAN _ _
 go_wp2_with(with_reducible refine aI ?_;refine wpPr rfl 27 _ _ rfl w4.heap.size (Iv .u8 T) rfl rfl _ _ K4.out (hi16.out _ hTl) (hz16.out _ hTl) (aH _ _) (fun X hX=>sH ?_))
 refine aG ?_
 have hg3:g3<w3.heap.size:=S3.out.1
 have XO:Hid (bX .u8 5 W.heap.size X (.slice (some ⟨g3,0,none⟩) n c3) Hd):=AY (bX.later (bX.later O3.out b4) ((Below.refl _ _).alloc (nQ _) _)) hX (by omega)
 have XB:Hid (Below W.heap.size W X):=hX.below _ _ ((B3.out.trans (b4.mono B3.out.size)).alloc (by have:=B3.out.size;omega) _) (by have:=B3.out.size;omega)
 have XT:Hid _:=(Sl.of_row hX.here).2
 have hxs:=XB.out.size
 clear hX b4 K4 K0 K1 O3 B3 S3 E3 hzv
 go_wp2_with(at_builtin;refine cU .u8 48 5 1 underlying48 mS (by decide) rfl (.tmp 28) (.tmp 29) rfl W.heap.size W X _ Hd w4.heap.size 0 16 16 T hTl rfl rfl XO.out XB.out hxs (by omega) (fun j hj=>XT.out j (by omega)) ?_;intro v5 w5 o5 b5 _ d5;refine sH ?_)
 refine aG ?_
 have n5:v5.ownBlock≠none:=tM N3.out d5
 rw[←HSL.out]at o5
 have O5:Hid (bX .u8 5 w.heap.size w5 v5 (qF B E text)):=bX.mono o5 (by omega)
 have N5:Hid _:=n5
 have B5:Hid (Below w.heap.size w w5):=GB.out.trans (b5.mono (by omega))
 clear o5 b5 d5 n5 XO XB XT
 go_wp2
 go_ret
 exact⟨_,rfl,O5.out,N5.out,B5.out⟩
set_option maxRecDepth 10000 in
set_option maxHeartbeats 2000000 in
theorem JY (HPO:Hid (FP 84)) (key nonce:List Int) (hk:key.length=32) (hr:nonce.length=12) (B:Nat→List Int) (hB:∀i,(B i).length=64) (HC:Hid (zN 81 key nonce B (fun _=>True))) (hBb:∀i,aE (B i))
 (text E:List Int) (n m:Nat) (hn:text.length=n) (hm:E.length=m) (hn2:n≤65536) (hm2:m≤65536) (htb:aE text) (hEb:aE E) (tg to_ tc eg eo ec:Nat) (w:World) (HST:Hid (Sl w tg to_ text)) (HSE:Hid (Sl w eg eo E)) (htc:n≤tc) (htc2:tc≤9223372036854775807):
 Calls prog 30 #[.agg (Iv .u8 key),.agg (Iv .u8 nonce),.slice (some ⟨tg,to_,none⟩) n tc,.slice (some ⟨eg,eo,none⟩) m ec] w fun e w'=>∃v,e=.returned v∧bX .u8 5 w.heap.size w' v (qF B E text)∧v.ownBlock≠none∧Below w.heap.size w w':=by
 have hzv:=A4
 have hi32:Hid ((prog.info? 22).map (·.size)=some (Iv .u8 key).size):=by show _=_;rw[aC,hk];exact rY
 have hi12:Hid ((prog.info? 24).map (·.size)=some (Iv .u8 nonce).size):=by show _=_;rw[aC,hr];exact uU
 have hi16:Hid (∀l:List Int,l.length=16→(prog.info? 27).map (·.size)=some (Iv .u8 l).size):=fun l hl=>by rw[aC,hl];exact AU
 have hz16:Hid (∀l:List Int,l.length=16→(Iv .u8 (aA 16)).size=(Iv .u8 l).size):=fun l hl=>by rw[aC,aC,hl];simp[aA]
 obtain⟨W,hW,g0,g1,hs,hBW⟩:=kG w (.cells (Iv .u8 key) 22) (.cells (Iv .u8 nonce) 24)
 have HW:Hid _:=hW
 have G0:Hid _:=g0
 have G1:Hid _:=g1
 have GB:Hid _:=hBW
 have TS:Hid _:=Sl.later HST.out hBW HST.out.1
 have ES:Hid _:=Sl.later HSE.out hBW HSE.out.1
 clear hW g0 g1 hBW
 have h1i:((65536:Int)<n)=False:=by simp;omega
 have h2i:((65536:Int)<m)=False:=by simp;omega
 obtain⟨Hd,hHd⟩:∃x,x=lH B text n:=⟨_,rfl⟩
 have hHl:Hd.length=n:=by rw[hHd,iR]
 have hHb:aE Hd:=by rw[hHd];exact xB _ _ _
 obtain⟨T,hT⟩:∃x,OP B E Hd=x:=⟨_,rfl⟩
 have hTl:T.length=16:=by rw[←hT];exact rK _ _
 have HSL:Hid (qF B E text=Hd++T):=by show _=_;unfold qF;rw[hn,←hHd,hT]
 have HTT:Hid _:=hT
 have HHd:Hid _:=hHd
 clear hT hHd
 go_enter func30,ntmps30
 go_wp2_with(with_reducible refine aI ?_;first
  | (rw[HW.out];refine sH ?_))
 refine aG ?_
 go_wp2_with(with_reducible refine aI ?_;first
  | refine wpLr rfl 22 _ rfl w.heap.size rfl _ (Iv .u8 key) _ _ G0.out underlying22 rfl hi32.out ?_
  | refine wpLr rfl 24 _ rfl (w.heap.size+1) rfl _ (Iv .u8 nonce) _ _ G1.out underlying24 rfl hi12.out ?_)
 refine(JI key nonce hk hr B hB HC hBb text n hn hn2 htb tg to_ tc W TS htc htc2).mono ?_
 rintro e w3 ⟨v3,rfl,o3,n3,b3⟩
 obtain⟨g3,c3,rfl,_,_,_,_,_⟩:=pJ o3 n3
 rw[iR]at o3 n3⊢
 rw[←HHd.out]at o3
 have S3:Hid _:=Sl.of_own o3
 have O3:Hid _:=o3
 have N3:Hid _:=n3
 have B3:Hid (Below W.heap.size W w3):=b3
 have K0:Hid _:=(b3.block _ (by omega)).trans G0.out
 have K1:Hid _:=(b3.block _ (by omega)).trans G1.out
 have E3:Hid _:=Sl.later ES.out b3 ES.out.1
 clear o3 n3 b3 G0 G1 TS ES
 go_wp2_with(with_reducible refine aI ?_;first
  | refine wpLr rfl 22 _ rfl w.heap.size rfl _ (Iv .u8 key) _ _ K0.out underlying22 rfl hi32.out ?_
  | refine wpLr rfl 24 _ rfl (w.heap.size+1) rfl _ (Iv .u8 nonce) _ _ K1.out underlying24 rfl hi12.out ?_)
 refine(RN HPO key nonce hk hr B hB HC hBb Hd E n m hHl hm hn2 hm2 hHb hEb g3 0 c3 eg eo ec w3 S3 E3 T HTT).mono ?_
 rintro e w4 ⟨rfl,b4⟩
 have hs4:=b4.size
 have K4:Hid ((w4.alloc (.cells (Iv .u8 (aA 16)) 27)).heap[w4.heap.size]? =some (.cells (Iv .u8 (aA 16)) 27)):=hAN _ _
 go_wp2_with(with_reducible refine aI ?_;refine wpPr rfl 27 _ _ rfl w4.heap.size (Iv .u8 T) rfl rfl _ _ K4.out (hi16.out _ hTl) (hz16.out _ hTl) (aH _ _) (fun X hX=>sH ?_))
 refine aG ?_
 have hg3:g3<w3.heap.size:=S3.out.1
 have XO:Hid (bX .u8 5 W.heap.size X (.slice (some ⟨g3,0,none⟩) n c3) Hd):=AY (bX.later (bX.later O3.out b4) ((Below.refl _ _).alloc (nQ _) _)) hX (by omega)
 have XB:Hid (Below W.heap.size W X):=hX.below _ _ ((B3.out.trans (b4.mono B3.out.size)).alloc (by have:=B3.out.size;omega) _) (by have:=B3.out.size;omega)
 have XT:Hid _:=(Sl.of_row hX.here).2
 have hxs:=XB.out.size
 clear hX b4 K4 K0 K1 O3 B3 S3 E3 hzv
 go_wp2_with(at_builtin;refine cU .u8 48 5 1 underlying48 mS (by decide) rfl (.tmp 28) (.tmp 29) rfl W.heap.size W X _ Hd w4.heap.size 0 16 16 T hTl rfl rfl XO.out XB.out hxs (by omega) (fun j hj=>XT.out j (by omega)) ?_;intro v5 w5 o5 b5 _ d5;refine sH ?_)
 refine aG ?_
 have n5:v5.ownBlock≠none:=tM N3.out d5
 rw[←HSL.out]at o5
 have O5:Hid (bX .u8 5 w.heap.size w5 v5 (qF B E text)):=bX.mono o5 (by omega)
 have N5:Hid _:=n5
 have B5:Hid (Below w.heap.size w w5):=GB.out.trans (b5.mono (by omega))
 clear o5 b5 d5 n5 XO XB XT
 go_wp2
 go_ret
 exact⟨_,rfl,O5.out,N5.out,B5.out⟩
abbrev Rs:=List (Nat×Array Value×TypeId)
structure Sx (w:World) (b:Nat) (cs:List Value) (t:TypeId) (R:Rs) (y:World):Prop where
 lb:b<w.heap.size
 tn:Tn w b cs t y
 row:∀r∈R,w.heap.size≤r.1∧r.1<y.heap.size∧y.heap[r.1]? =some (.cells r.2.1 r.2.2)
 nd:(R.map (·.1)).Nodup
section
variable {w y z:World} {b:Nat} {cs cs':List Value} {t:TypeId} {R R':Rs}
theorem Sx.start (hr:w.heap[b]? =some (.cells cs.toArray t)):Sx w b cs t [] w:=
 ⟨(Array.getElem?_eq_some_iff.1 hr).1,⟨rfl,rfl,rfl,nQ _,fun _ _ _=>rfl,hr⟩,fun r h=>(by cases h),List.nodup_nil⟩
theorem Sx.here (h:Sx w b cs t R y):y.heap[b]? =some (.cells cs.toArray t):=h.tn.here
theorem Sx.at (h:Sx w b cs t R y) {g:Nat} {v:Array Value} {u:TypeId} (hr:(g,v,u)∈R):y.heap[g]? =some (.cells v u):=(h.row _ hr).2.2
theorem Sx.later (h:Sx w b cs t R y) (hb:Below y.heap.size y z):Sx w b cs t R z:=
 ⟨h.lb,h.tn.more hb,fun r hr=>⟨(h.row r hr).1,nJ (h.row r hr).2.1 hb.size,(hb.block _ (h.row r hr).2.1).trans (h.row r hr).2.2⟩,h.nd⟩
theorem Sx.drew (h:Sx w b cs t R y):Sx w b cs t R y.drew:=h.later (bDr (Below.refl _ _) 1)
theorem Sx.alloc (h:Sx w b cs t R y) (n:Nat) (hn:y.heap.size=n) (v:Array Value) (u:TypeId):Sx w b cs t ((n,v,u)::R) (y.alloc (.cells v u)):=by
 subst hn
 have h1:=h.later ((Below.refl y.heap.size y).alloc (nQ _) (.cells v u))
 refine⟨h1.lb,h1.tn,fun r hr=>?_,?_⟩
 ·rcases List.mem_cons.1 hr with rfl|hr
  ·exact⟨h.tn.size,by simp,hAN _ _⟩
  ·exact h1.row r hr
 ·rw[List.map_cons,List.nodup_cons]
  refine⟨fun hm=>?_,h.nd⟩
  obtain⟨r,hr,e⟩:=List.mem_map.1 hm
  have:=(h.row r hr).2.1
  omega
theorem Sx.turn (h:Sx w b cs t R y) (hT:Tn y b cs' t z):Sx w b cs' t R z:=
 ⟨h.lb,h.tn.then hT,fun r hr=>⟨(h.row r hr).1,nJ (h.row r hr).2.1 hT.size,(hT.far r.1 (h.row r hr).2.1 (by have:=(h.row r hr).1;have:=h.lb;omega)).trans (h.row r hr).2.2⟩,h.nd⟩
theorem Sx.putR (h:Sx w b cs t R y) (hP:vD y b cs'.toArray t z):Sx w b cs' t R z:=h.turn (Tn.of (Below.refl _ _) hP)
theorem Sx.putK {R1 R2:Rs} {g:Nat} {v v':Array Value} {u:TypeId} (h:Sx w b cs t (R1++(g,v,u)::R2) y) (hP:vD y g v' u z):Sx w b cs t (R1++(g,v',u)::R2) z:=by
 have hg:=h.row (g,v,u) (by simp)
 have hnd:=h.nd
 simp only[List.map_append,List.map_cons]at hnd
 have hnb:=List.nodup_append.1 hnd
 have h1:=hP.below g y (Below.refl _ _) (nQ _)
 refine⟨h.lb,⟨h1.os.trans h.tn.os,h1.tape.trans h.tn.tape,h1.output.trans h.tn.output,by rw[hP.size];exact h.tn.size,fun k hk hne=>(hP.far k (by have:=hg.1;show k≠g;omega)).trans (h.tn.far k hk hne),(hP.far b (by have:=hg.1;have:=h.lb;show b≠g;omega)).trans h.tn.here⟩,fun r hr=>?_,by simp only[List.map_append,List.map_cons];exact hnd⟩
 simp only[mY,List.mem_cons]at hr
 rcases hr with hr|rfl|hr
 ·have h2:=h.row r (by simp[hr])
  refine⟨h2.1,by rw[hP.size];exact h2.2.1,(hP.far r.1 (fun e=>?_)).trans h2.2.2⟩
  exact hnb.2.2 r.1 (List.mem_map_of_mem hr) g (by simp) e
 ·exact⟨hg.1,by rw[hP.size];exact hg.2.1,hP.here⟩
 ·have h2:=h.row r (by simp[hr])
  refine⟨h2.1,by rw[hP.size];exact h2.2.1,(hP.far r.1 (fun e=>?_)).trans h2.2.2⟩
  exact(List.nodup_cons.1 hnb.2.1).1 (by rw[←e];exact List.mem_map_of_mem hr)
theorem Sx.put0 {R2:Rs} {g:Nat} {v v':Array Value} {u:TypeId} (h:Sx w b cs t ((g,v,u)::R2) y) (hP:vD y g v' u z):Sx w b cs t ((g,v',u)::R2) z:=Sx.putK (R1:=[]) h hP
theorem Sx.tail {r:Nat×Array Value×TypeId} (h:Sx w b cs t (r::R) y):Sx w b cs t R y:=⟨h.lb,h.tn,fun q hq=>h.row q (.tail _ hq),(List.nodup_cons.1 (by simpa using h.nd)).2⟩
theorem Sx.tabs (h:Sx w b cs t R y) (ht:dU w) (hb:3<b):dU y:=ht.turn h.tn hb (by have:=h.lb;omega)
end
theorem aM {l:List Int} (h:l.length=32):(prog.info? 22).map (·.size)=some (Iv .u8 l).size:=by rw[aC,h];exact i6
theorem LI {W:World} {g:Nat} {A B:List Int} {t:TypeId} (h:W.heap[g]? =some (.cells (Iv .u8 (A++B)) t)) (hA:A.length=32) (hB:B.length=32):W.rangeAt g 0 (A.map (Value.int .u8))∧W.rangeAt g 32 (B.map (Value.int .u8)):=by
 have h1:=fE (l:=(A++B).map (Value.int .u8)) h 0 32
 have h2:=fE (l:=(A++B).map (Value.int .u8)) h 32 32
 rw[List.map_append]at h1 h2
 have e1:(A.map (Value.int .u8)).length=32:=by rw[lU,hA]
 have e2:(B.map (Value.int .u8)).length=32:=by rw[lU,hB]
 rw[dY,←e1,List.take_left]at h1
 refine⟨h1,?_⟩
 have e3:(A.map (Value.int .u8)++B.map (Value.int .u8)).drop 32=B.map (Value.int .u8):=by rw[←e1];exact List.drop_left
 rw[e3,List.take_of_length_le (by rw[e2];exact nQ _)]at h2
 exact h2
set_option maxRecDepth 10000 in
set_option maxHeartbeats 2000000 in
theorem DI (c h p:List Int) (r:List Value) (hc:c.length=32) (hh:h.length=32) (hp:p.length=32) (hcb:aE c) (hpb:aE p) (b:Nat) (hb3:3<b) (t:TypeId) (w:World) (hr:w.heap[b]? =some (.cells (eF c h r).toArray t)) (ht:dU w):
 Calls prog 90 #[.pointer (some ⟨b,0,none⟩),.agg (Iv .u8 p)] w fun x w'=>x=.returned (.agg (Iv .u8 (fA (fR c p) 1)))∧Tn w b (eF (fA (fR c p) 0) h r) t w':=by
 have hz:=fN
 obtain⟨A,eA⟩:∃A,fA (fR c p) 0=A:=⟨_,rfl⟩
 obtain⟨K,eK⟩:∃K,fA (fR c p) 1=K:=⟨_,rfl⟩
 have hA:A.length=32:=by rw[←eA];exact bB _ _
 have hK:K.length=32:=by rw[←eK];exact bB _ _
 rw[eA,eK]
 have EA:Hid _:=eA
 have EK:Hid _:=eK
 have HC:Hid _:=hc
 have H32:Hid _:=hh
 have HP:Hid _:=hp
 have HCB:Hid _:=hcb
 have HPB:Hid _:=hpb
 have HT:Hid (dU w):=ht
 have S0:Hid _:=Sx.start hr
 clear eA eK hc hh hp hcb hpb ht hr
 go_enter func90,ntmps90
 go_wp2_with fail
 obtain⟨n0,e0⟩:∃n,w.heap.size=n:=⟨_,rfl⟩
 have S1:=(S0.out.alloc n0 e0 (Iv .u8 p) 22).alloc (n0+1) (by simp[e0]) (Iv .u8 (aA 32)) 22
 rw[e0]
 obtain⟨W,hW⟩:∃W,(w.alloc (.cells (Iv .u8 p) 22)).alloc (.cells (Iv .u8 (aA 32)) 22)=W:=⟨_,rfl⟩
 rw[hW]at S1⊢
 have S:Hid _:=S1.drew
 clear hW S1 S0 e0
 refine wRt 6 (fun w'=>∃x:Wp (fun v=>Sx w b (eF c h r) t [(n0+1,Iv .u8 (aA 32),22),(n0,Iv .u8 p,22)] v),w'=x.w) (.held [0,4] (.tail 1 (.held [2,3] (.tail 5 (.last 6 .done))))) fJ (by kernel_rfl) ⟨⟨_,S.out⟩,rfl⟩ ?_
 obtain⟨y0,ey⟩:∃y,y=W.drew:=⟨_,rfl⟩
 rw[←ey]at S⊢
 clear ey
 refine wTh ?_
 simp only[oS]
 refine aD rfl (.pointer (some ⟨b,0,none⟩)) (fun w'=>by kernel_rfl) ?_
 simp only[pS]
 refine aD rfl (.slice (some ⟨n0,0,none⟩) 32 32) (fun w'=>by kernel_rfl) ?_
 simp only[pS]
 refine wqN ?_
 refine wTt ?_
 simp only[oS]
 go_wp2_with fail
 refine⟨⟨⟨_,S.out⟩,rfl⟩,?_⟩
 refine wTh ?_
 simp only[oS]
 refine aD rfl (.pointer (some ⟨b,0,none⟩)) (fun w'=>by kernel_rfl) ?_
 simp only[pS]
 refine aD rfl (.slice (some ⟨b,0,none⟩) 32 32) (fun w'=>by kernel_rfl) ?_
 simp only[pS]
 refine wqN ?_
 refine wTt ?_
 simp only[oS]
 go_wp2_with fail
 refine(LH c p HC.out HCB.out HP.out HPB.out 2 (by decide) (by decide) b 0 n0 0 y0 (abQ S.out.here HC.out) (Array.getElem?_eq_some_iff.1 S.out.here).1 (rA (S.out.at (.tail _ (.head _)))) (S.out.tabs HT.out hb3)).mono ?_
 rintro x y1 ⟨g,rfl,hg,hrow,hb1⟩
 rw[XU,EA.out,EK.out]at hrow
 have S1:Hid _:=S.out.later hb1
 have G:Hid _:=hrow
 have GN:Hid (g≠b):=by show _≠_;have h1:=(Array.getElem?_eq_some_iff.1 S.out.here).1;omega
 have X:Hid _:=LI hrow hA hK
 clear hb1 hrow hg S
 go_wp2_with fail
 refine⟨⟨⟨_,S1.out⟩,rfl⟩,?_⟩
 refine wTl ?_
 simp only[oS]
 go_wp2_with fail
 refine bN ?_
 have hfit:Hid (0+(A.map (Value.int .u8)).length≤(eF c h r).length):=by show _≤_;rw[lU,hA,iZ _ _ _ HC.out H32.out];omega
 go_wp2_with(first
  | refine wpList_load_mid rfl 22 _ rfl g 0 rfl (A.map (Value.int .u8)) _ X.out.1 underlying22 rfl (eQ hA) ?_
  | refine wpPp rfl 22 _ _ rfl b 0 (A.map (Value.int .u8)) rfl rfl (eF c h r) t S1.out.here (eF A h r) (eQ hA) hfit.out (zJ _) (MH c A h r HC.out hA) ?_)
 intro y2 hP
 have X2:Hid (y2.rangeAt g 32 (K.map (Value.int .u8))):=(LI ((hP.far g GN.out).trans G.out) hA hK).2
 have S2:Hid _:=S1.out.putR hP
 clear hP S1 hfit X G GN
 go_wp2_with(first
  | refine wpList_load_mid rfl 22 _ rfl g 32 rfl (K.map (Value.int .u8)) _ X2.out underlying22 rfl (eQ hK) ?_
  | refine wpPr rfl 22 _ _ rfl (n0+1) (Iv .u8 K) rfl rfl _ _ (S2.out.at (.head _)) (aM hK) (by rw[aC,aC,hK];rfl) (aH _ _) ?_)
 intro y3 hP
 have S3:Hid _:=S2.out.put0 hP
 clear hP S2
 go_wp2_with fail
 exact bodyPost_ret (v:=.agg (Iv .u8 K)) (results_cell_row rfl _ _ _ _ (Iv .u8 K) _ _ rfl (S3.out.at (.head _)) underlying22 rfl (aM hK)) rfl ⟨rfl,S3.out.tn⟩
theorem mR:(prog.info? 240).map (·.size)=some 5:=by kernel_rfl
theorem eJ:prog.follows .mixedOrders=true:=by kernel_rfl
set_option maxHeartbeats 4000000 in
theorem zQ (a0 a1 a2 a3 a4:Int) (w:World) (h0:0≤a0) (g0:a0≤576460752303423488) (h1:0≤a1) (g1:a1≤576460752303423488) (h2:0≤a2) (g2:a2≤576460752303423488) (h3:0≤a3) (g3:a3≤576460752303423488) (h4:0≤a4) (g4:a4≤576460752303423488):
 Calls prog 159 #[.agg #[.int .u64 a0,.int .u64 a1,.int .u64 a2,.int .u64 a3,.int .u64 a4]] w fun e w'=>∃r0 r1 r2 r3 r4,e=.returned (.agg #[.int .u64 r0,.int .u64 r1,.int .u64 r2,.int .u64 r3,.int .u64 r4])∧Car a0 a1 a2 a3 a4 r0 r1 r2 r3 r4∧Below w.heap.size w w':=by
 go_enter func159,ntmps159
 go_wp2
 refine wp_loop_rounds 6 ?_
 iterate 6 (rw[rdS];go_wp2)
 refine bodyPost_ret (v:=.agg #[.int .u64 _,.int .u64 _,.int .u64 _,.int .u64 _,.int .u64 _]) (by simp[results,results159,go_sem]) rfl ⟨_,_,_,_,_,rfl,ZN a0 a1 a2 a3 a4 h0 g0 h1 g1 h2 g2 h3 g3 h4 g4,?_⟩
 exact((Below.refl _ _).alloc (by simp) _).alloc (by simp) _
theorem NO (a0 a1 a2 a3 a4:Int) (h0:0≤a0) (g0:a0<67108864) (h1:0≤a1) (g1:a1<67108864) (h2:0≤a2) (g2:a2<67108864) (h3:0≤a3) (g3:a3<67108864) (h4:0≤a4) (g4:a4<67108864):
 bits .or .u64 (bits .or .u64 a0 (IntKind.u64.wrap (a1*67108864))) (IntKind.u64.wrap (a2*4503599627370496))=a0+67108864*a1+4503599627370496*(a2%4096)∧
 bits .or .u64 (bits .or .u64 (a2 / 4096) (IntKind.u64.wrap (a3*16384))) (IntKind.u64.wrap (a4*1099511627776))=a2 / 4096+16384*a3+1099511627776*(a4%16777216):=by
 have e1:IntKind.u64.wrap (a1*67108864)=a1*67108864:=tO _ (by omega) (by omega)
 have e2:IntKind.u64.wrap (a2*4503599627370496)=(a2%4096)*4503599627370496:=by rw[IntKind.wrap_u64];omega
 have e3:IntKind.u64.wrap (a3*16384)=a3*16384:=tO _ (by omega) (by omega)
 have e4:IntKind.u64.wrap (a4*1099511627776)=(a4%16777216)*1099511627776:=by rw[IntKind.wrap_u64];omega
 rw[e1,e2,e3,e4]
 rw[yE 26 a0 (a1*67108864) (by decide) (by omega) (by omega) (by omega) (by omega) (by omega)]
 rw[yE 52 (a0+a1*67108864) ((a2%4096)*4503599627370496) (by decide) (by omega) (by omega) (by omega) (by omega) (by omega)]
 rw[yE 14 (a2 / 4096) (a3*16384) (by decide) (by omega) (by omega) (by omega) (by omega) (by omega)]
 rw[yE 40 (a2 / 4096+a3*16384) ((a4%16777216)*1099511627776) (by decide) (by omega) (by omega) (by omega) (by omega) (by omega)]
 omega
set_option maxHeartbeats 1000000 in
theorem NN (a0 a1 a2 a3 a4:Int) (w:World) (h0:0≤a0) (g0:a0<67108864) (h1:0≤a1) (g1:a1<67108864) (h2:0≤a2) (g2:a2<67108864) (h3:0≤a3) (g3:a3<67108864) (h4:0≤a4) (g4:a4<67108864):
 Calls prog 155 #[.agg #[.int .u64 a0,.int .u64 a1,.int .u64 a2,.int .u64 a3,.int .u64 a4]] w fun e w'=>
  e=.returned (.tuple #[.int .u64 (a0+67108864*a1+4503599627370496*(a2%4096)),.int .u64 (a2 / 4096+16384*a3+1099511627776*(a4%16777216))])∧Below w.heap.size w w':=by
 have H:=NO a0 a1 a2 a3 a4 h0 g0 h1 g1 h2 g2 h3 g3 h4 g4
 have H1:Hid (_∧_):=H
 clear H h0 g0 h1 g1 h2 g2 h3 g3 h4 g4
 go_enter func155,ntmps155
 go_wp2
 go_quiet (fail)
 go_wp2
 go_ret2
 obtain⟨H2,H3⟩:=H1.out
 rw[H2,H3]
 exact⟨rfl,bDr ((Below.refl _ _).alloc (by simp) _) _⟩
theorem RT (w0 w1 w2 w3 w4:Int) (h0:0≤w0) (g0:w0<4294967296) (h1:0≤w1) (g1:w1<4294967296) (h2:0≤w2) (g2:w2<4294967296) (h3:0≤w3) (g3:w3<4294967296) (h4:0≤w4) (g4:w4≤1):
 bits .and .u64 w0 67108863=w0%67108864∧
 bits .and .u64 (bits .or .u64 (w0 / 67108864) (w1*64)) 67108863=w0 / 67108864+64*(w1%1048576)∧
 bits .and .u64 (bits .or .u64 (w1 / 1048576) (w2*4096)) 67108863=w1 / 1048576+4096*(w2%16384)∧
 bits .and .u64 (bits .or .u64 (w2 / 16384) (w3*262144)) 67108863=w2 / 16384+262144*(w3%256)∧
 bits .or .u64 (w3 / 256) (w4*16777216)=w3 / 256+16777216*w4:=by
 rw[kY w0 h0 (by omega)]
 rw[yE 6 (w0 / 67108864) (w1*64) (by decide) (by omega) (by omega) (by omega) (by omega) (by omega),kY _ (by omega) (by omega)]
 rw[yE 12 (w1 / 1048576) (w2*4096) (by decide) (by omega) (by omega) (by omega) (by omega) (by omega),kY _ (by omega) (by omega)]
 rw[yE 18 (w2 / 16384) (w3*262144) (by decide) (by omega) (by omega) (by omega) (by omega) (by omega),kY _ (by omega) (by omega)]
 rw[yE 24 (w3 / 256) (w4*16777216) (by decide) (by omega) (by omega) (by omega) (by omega) (by omega)]
 omega
set_option maxHeartbeats 1000000 in
theorem RS (w0 w1 w2 w3 w4:Int) (w:World) (h0:0≤w0) (g0:w0<4294967296) (h1:0≤w1) (g1:w1<4294967296) (h2:0≤w2) (g2:w2<4294967296) (h3:0≤w3) (g3:w3<4294967296) (h4:0≤w4) (g4:w4≤1):
 Calls prog 158 #[.agg #[.int .u32 w0,.int .u32 w1,.int .u32 w2,.int .u32 w3,.int .u32 w4]] w fun e w'=>
  e=.returned (.agg #[.int .u64 (w0%67108864),.int .u64 (w0 / 67108864+64*(w1%1048576)),.int .u64 (w1 / 1048576+4096*(w2%16384)),.int .u64 (w2 / 16384+262144*(w3%256)),.int .u64 (w3 / 256+16777216*w4)])∧Below w.heap.size w w':=by
 have H:=RT w0 w1 w2 w3 w4 h0 g0 h1 g1 h2 g2 h3 g3 h4 g4
 have H1:Hid (_∧_∧_∧_∧_):=H
 clear H
 go_enter func158,ntmps158
 go_wp2
 obtain⟨H2,H3,H4,H5,H6⟩:=H1.out
 rw[H2,H3,H4,H5,H6]
 refine bodyPost_ret (v:=.agg #[.int .u64 _,.int .u64 _,.int .u64 _,.int .u64 _,.int .u64 _]) (by simp[results,results158,go_sem]) rfl ⟨rfl,?_⟩
 exact((Below.refl _ _).alloc (by simp) _).alloc (by simp) _
theorem GS (w0 w1 w2 w3 w4:Int) (w:World) (h0:0≤w0) (g0:w0<4294967296) (h1:0≤w1) (g1:w1<4294967296) (h2:0≤w2) (g2:w2<4294967296) (h3:0≤w3) (g3:w3<4294967296) (h4:0≤w4) (g4:w4≤1):
 Calls prog 158 #[.agg #[.int .u32 w0,.int .u32 w1,.int .u32 w2,.int .u32 w3,.int .u32 w4]] w fun e w'=>
  ∃r0 r1 r2 r3 r4,e=.returned (.agg #[.int .u64 r0,.int .u64 r1,.int .u64 r2,.int .u64 r3,.int .u64 r4])∧oA r0 r1 r2 r3 r4∧
   V5 r0 r1 r2 r3 r4=w0+4294967296*w1+18446744073709551616*w2+79228162514264337593543950336*w3+340282366920938463463374607431768211456*w4∧Below w.heap.size w w':=by
 refine(RS w0 w1 w2 w3 w4 w h0 g0 h1 g1 h2 g2 h3 g3 h4 g4).mono ?_
 rintro e w' ⟨rfl,hb⟩
 obtain⟨hv,hl⟩:=LN w0 w1 w2 w3 w4 h0 g0 h1 g1 h2 g2 h3 g3 h4 g4
 exact⟨_,_,_,_,_,rfl,hl,hv,hb⟩
theorem aaF:(prog.info? 248).map (·.size)=some 5:=by kernel_rfl
set_option maxHeartbeats 4000000 in
theorem NJ (l:List Int) (hl:l.length=32) (hz:aE l) (w:World):
 Calls prog 150 #[.agg (Iv .u8 l)] w fun e w'=>∃r0 r1 r2 r3 r4,e=.returned (.agg #[.int .u64 r0,.int .u64 r1,.int .u64 r2,.int .u64 r3,.int .u64 r4])∧oA r0 r1 r2 r3 r4∧V5 r0 r1 r2 r3 r4=kO l∧Below w.heap.size w w':=by
 have hinfo22:(prog.info? 22).map (·.size)=some 32:=by kernel_rfl
 go_enter func150,ntmps150
 go_wp2
 refine wRh 2 eJ (by kernel_rfl) ?_
 simp only[tU,tJ,dJ,dY]
 repeat(go_big_quiet_step (fail))
 refine wqN ?_
 go_wp2_with fail
 refine(iV 16 (w.heap.size+1+1) 0 5 5 248 [0,0,0,0,0] w.heap.size 0 32 (l.take 16) _ (by simp[hl]) ?_ (by decide) (by decide) (by omega) (eM hz 16) (by decide) (by decide) ?_ (by decide) (by decide)).mono ?_
 ·simp only[heap_drew,cC,wU]
  simp
  rfl
 ·intro i hi
  have:=cT .u8 l i (by omega)
  simp only[World.cell?_drew]
  rw[World.cell?_alloc_past _ _ _ (by simp<;>omega),World.cell?_alloc_past _ _ _ (by simp<;>omega),World.cell?_alloc_at _ _ _ _ rfl,Nat.zero_add,this,cN,if_pos hi]
  simp[show i<l.length by omega]
 rintro e w1 ⟨rfl,d,rfl⟩
 rw[uF,oT _ _ _ _ _ (by simp),show Iv .u32 (pF9 [0,0,0,0,0] 0 (aF (l.take 16)) (min (16 / 4+1) 5))=#[.int .u32 (aF (l.take 16) 0),.int .u32 (aF (l.take 16) 1),.int .u32 (aF (l.take 16) 2),.int .u32 (aF (l.take 16) 3),.int .u32 (aF (l.take 16) 4)]from rfl]
 rw[vB l 16 0 (by decide),vB l 16 1 (by decide),vB l 16 2 (by decide),vB l 16 3 (by decide),zK (l.take 16) 4 (by rw[List.length_take];omega)]
 obtain⟨h0,g0⟩:=kR hz 0
 obtain⟨h1,g1⟩:=kR hz 1
 obtain⟨h2,g2⟩:=kR hz 2
 obtain⟨h3,g3⟩:=kR hz 3
 have HR:Hid (kO l=aF l 0%268435456+4294967296*(4*(aF l 1 / 4%67108864))+18446744073709551616*(4*(aF l 2 / 4%67108864))+79228162514264337593543950336*(4*(aF l 3 / 4%67108864))):=rfl
 generalize aF l 0=x0 at*
 generalize aF l 1=x1 at*
 generalize aF l 2=x2 at*
 generalize aF l 3=x3 at*
 have e0:=ab2 x0 h0 g0
 have e1:=MV x1 h1 g1
 have e2:=MV x2 h2 g2
 have e3:=MV x3 h3 g3
 clear hz
 go_wp2
 refine wp_loop_rounds 4 ?_
 iterate 3 (rw[rdS];go_wp2)
 rw[rdS];go_wp2_with fail
 refine(GS _ _ _ _ _ _ (by omega) (by omega) (by omega) (by omega) (by omega) (by omega) (by omega) (by omega) (by omega) (by omega)).mono ?_
 rintro e w1 ⟨r0,r1,r2,r3,r4,rfl,ll,lv,hb⟩
 have hbW:Below (w.heap.size+1+1) ((w.alloc (.cells (Iv .u8 l) 22)).alloc (.cells #[.int .u64 0,.int .u64 0,.int .u64 0,.int .u64 0,.int .u64 0] 240)) w1:=
  (((((bDr ((Below.refl _ _).alloc (by simp) _) (1+d)).setCell (by simp) _).setCell (by simp) _).setCell (by simp) _).setCell (by simp) _).trans (hb.mono (by simp<;>omega))
 have hg:w1.heap[w.heap.size+1]? =some (.cells #[.int .u64 0,.int .u64 0,.int .u64 0,.int .u64 0,.int .u64 0] 240):=by
  rw[hbW.block _ (by omega)]
  simp only[cC,wU]
  simp
 have hbb:Below w.heap.size w w1:=(((Below.refl w.heap.size w).alloc (by simp) _).alloc (by simp) _).trans (hbW.mono (by omega))
 have hv:=lv.trans (show _=kO l by rw[HR.out];omega)
 clear hb hbW lv e0 e1 e2 e3
 have HV:Hid (V5 r0 r1 r2 r3 r4=kO l):=hv
 clear hv
 go_wp2_with(refine wpList_store_row rfl 240 _ _ rfl _ _ rfl rfl _ _ hg mR rfl (U7 _ _ _ _ _ _) ?_)
 refine oG (cs:=#[.int .u64 r0,.int .u64 r1,.int .u64 r2,.int .u64 r3,.int .u64 r4]) results150 ?_ (setRow_heap _ _ _ _ _ _ hg) underlying240 mR ?_
 ·rfl
 ·exact⟨_,_,_,_,_,rfl,ll,HV.out,aO hbb _ (by omega) _⟩
set_option maxHeartbeats 4000000 in
theorem H7 (zs:List Int) (m:Nat) (hm:zs.length=m) (h1:1≤m) (h16:m≤16) (hz:aE zs) (b o cap:Nat) (w:World) (hb:b<w.heap.size) (hcap:m≤cap) (hcap2:cap≤9223372036854775807)
 (hc:∀i,i<m→w.cell? ⟨b,o+i,none⟩=some (.int .u8 (zs.getD i 0))):
 Calls prog 152 #[.slice (some ⟨b,o,none⟩) m cap] w fun e w'=>∃r0 r1 r2 r3 r4,e=.returned (.agg #[.int .u64 r0,.int .u64 r1,.int .u64 r2,.int .u64 r3,.int .u64 r4])∧oA r0 r1 r2 r3 r4∧V5 r0 r1 r2 r3 r4=aT zs+256^m∧Below w.heap.size w w':=by
 have hP:=VC zs hz (by omega) (by omega)
 go_enter func152,ntmps152
 go_wp2_with fail
 refine(iV m (w.heap.size+1) 0 5 5 248 [0,0,0,0,0] b o cap zs _ hm ?_ (by decide) (by decide) (by omega) hz (by omega) (by omega) ?_ hcap hcap2).mono ?_
 ·simp only[cC,wU]
  simp
  rfl
 ·intro i hi
  rw[World.cell?_alloc_past _ _ _ (by simp<;>omega),World.cell?_alloc_past _ _ _ hb]
  exact hc i hi
 rintro e w1 ⟨rfl,d,rfl⟩
 have hput:pF9 [0,0,0,0,0] 0 (aF zs) (min (m / 4+1) 5)=[aF zs 0,aF zs 1,aF zs 2,aF zs 3,aF zs 4]:=by
  apply List.ext_getElem?
  intro i
  rw[cR _ _ _ _ _ (by simp<;>omega)]
  by_cases hi:i<5
  ·by_cases hi2:i<m / 4+1
   ·rw[if_pos (by omega)]
    match i,hi with
    | 0,_=>rfl
    | 1,_=>rfl
    | 2,_=>rfl
    | 3,_=>rfl
    | 4,_=>rfl
   ·rw[if_neg (by omega)]
    have:=zK zs i (by omega)
    match i,hi,this with
    | 0,_,h=>simp[h]
    | 1,_,h=>simp[h]
    | 2,_,h=>simp[h]
    | 3,_,h=>simp[h]
    | 4,_,h=>simp[h]
  ·rw[if_neg (by omega),List.getElem?_eq_none (by simp<;>omega),List.getElem?_eq_none (by simp<;>omega)]
 rw[oT _ _ _ _ _ (by simp),hput]
 have hc4:(Iv .u32 [aF zs 0,aF zs 1,aF zs 2,aF zs 3,aF zs 4])[m / 4]? =some (.int .u32 (aF zs (m / 4))):=by
  have h5:m / 4<5:=by omega
  generalize m / 4=q at h5
  match q,h5 with
  | 0,_=>rfl
  | 1,_=>rfl
  | 2,_=>rfl
  | 3,_=>rfl
  | 4,_=>rfl
 have hpow:(2:Int)^(8*(m%4))%4294967296=2^(8*(m%4)):=by
  have h4:m%4<4:=by omega
  generalize m%4=q at h4
  match q,h4 with
  | 0,_=>rfl
  | 1,_=>rfl
  | 2,_=>rfl
  | 3,_=>rfl
 obtain⟨v0,v1,v2,v3,v4,hw,q0,s0,q1,s1,q2,s2,q3,s3,q4,s4,hval⟩:=hP
 have hgL:∀n,((((w.alloc (.cells #[.int .u64 0,.int .u64 0,.int .u64 0,.int .u64 0,.int .u64 0] 240)).alloc (.cells (Iv .u32 [aF zs 0,aF zs 1,aF zs 2,aF zs 3,aF zs 4]) 248)).drewN n).setCell ⟨w.heap.size+1,m / 4,none⟩ (.int .u32 (bits .or .u32 (aF zs (m / 4)) (2^(8*(m%4)))))).heap[w.heap.size+1]? =some (.cells #[.int .u32 v0,.int .u32 v1,.int .u32 v2,.int .u32 v3,.int .u32 v4] 248):=by
  intro n
  rw[heap_setCell_same (hg:=by rw[World.heap_drewN,cC,if_pos (by simp)]),bR]
  have:([aF zs 0,aF zs 1,aF zs 2,aF zs 3,aF zs 4]).set (m / 4) (bits .or .u32 (aF zs (m / 4)) (2^(8*(m%4))))=[v0,v1,v2,v3,v4]:=by rw[←hw,cV,hm]
  rw[this]
  rfl
 have hbL:∀n v,Below (w.heap.size+1) (w.alloc (.cells #[.int .u64 0,.int .u64 0,.int .u64 0,.int .u64 0,.int .u64 0] 240)) ((((w.alloc (.cells #[.int .u64 0,.int .u64 0,.int .u64 0,.int .u64 0,.int .u64 0] 240)).alloc (.cells (Iv .u32 [aF zs 0,aF zs 1,aF zs 2,aF zs 3,aF zs 4]) 248)).drewN n).setCell ⟨w.heap.size+1,m / 4,none⟩ v):=fun n v=>
  (bDr ((Below.refl _ _).alloc (by simp) _) n).setCell (by simp) _
 have HB:Hid (∀n v,_):=hbL
 have HG:Hid (∀n,_):=hgL
 have HV:Hid (_=_):=hval
 have HM:Hid (zs.length=m):=hm
 clear hc hput hbL hgL hval hm hw
 go_wp2
 refine wRh 12 eJ (by kernel_rfl) ?_
 simp only[tU,tJ,dJ,dY]
 repeat(go_big_quiet_step (fail))
 refine wqN ?_
 go_wp2_with(refine wpLr rfl 248 _ rfl _ rfl _ _ _ _ (HG.out _) underlying248 rfl aaF ?_)
 refine(GS _ _ _ _ _ _ q0 s0 q1 s1 q2 s2 q3 s3 q4 s4).mono ?_
 rintro e w1 ⟨r0,r1,r2,r3,r4,rfl,ll,lv,hb1⟩
 have hbW:=(HB.out _ _).trans (hb1.mono (by simp<;>omega))
 have hg:w1.heap[w.heap.size]? =some (.cells #[.int .u64 0,.int .u64 0,.int .u64 0,.int .u64 0,.int .u64 0] 240):=by
  rw[hbW.block _ (by omega)]
  simp only[cC]
  simp
 have hbb:Below w.heap.size w w1:=((Below.refl w.heap.size w).alloc (by simp) _).trans (hbW.mono (by omega))
 have HV2:Hid (V5 r0 r1 r2 r3 r4=aT zs+256^m):=by rw[←HM.out];exact lv.trans HV.out
 clear hb1 hbW lv
 go_wp2_with(refine wpList_store_row rfl 240 _ _ rfl _ _ rfl rfl _ _ hg mR rfl (U7 _ _ _ _ _ _) ?_)
 refine oG (cs:=#[.int .u64 r0,.int .u64 r1,.int .u64 r2,.int .u64 r3,.int .u64 r4]) results152 ?_ (setRow_heap _ _ _ _ _ _ hg) underlying240 mR ?_
 ·rfl
 ·exact⟨_,_,_,_,_,rfl,ll,HV2.out,aO hbb _ (by omega) _⟩
end Go.Proofs.YtgcepckaolkeoaaGreatDoor
