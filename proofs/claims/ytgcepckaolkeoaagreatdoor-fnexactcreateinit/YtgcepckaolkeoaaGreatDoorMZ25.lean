import Derived.Test.YtgcepckaolkeoaaGreatDoorMZ24
import Derived.Lib.Mul64
import Derived.Laws.Bits64b
namespace Go.Proofs.YtgcepckaolkeoaaGreatDoor
open Go.RowKit
open Go.Proofs.Tryz
open Go.RowKit Go.Lib
open Go renaming rounds_succ → rdS, wpQuiet_nil → wqN
open Go.World renaming size_alloc → wU
open List renaming drop_succ_cons → dJ, drop_zero → dY, length_append → lQ, take_succ_cons → tU, take_zero → tJ
open Nat renaming le_refl → nQ, lt_of_lt_of_le → nJ
set_option linter.unusedVariables false
theorem IB (B:Nat→List Int) (E text:List Int):(qF B E text).length=text.length+16:=by
 unfold qF OP
 rw[lQ,iR,rK]
theorem TR (key nonce:List Int) (i:Nat):(blk key nonce i).length=64:=by simp[blk,gW,pF9]
theorem TQ (key nonce:List Int) (i:Nat):aE (blk key nonce i):=by
 intro j
 unfold blk gW
 simp only[List.getD_eq_getElem?_getD]
 rw[cR _ _ _ _ _ (by simp)]
 split
 ·simp only[Option.getD_some,jB]
  omega
 ·rw[List.getElem?_replicate]
  split<;>simp
theorem Sl.of_range {w:World} {g o:Nat} {l:List Int} (hg:g<w.heap.size) (h:w.rangeAt g o (l.map (Value.int .u8))):Sl w g o l:=
 ⟨hg,fun i hi=>h i (.int .u8 (l.getD i 0)) (by simp[hi])⟩
theorem O1 {w w':World} {g:Nat} (h:w'.heap[g]? =w.heap[g]?) (o:Nat):w'.cell? ⟨g,o,none⟩=w.cell? ⟨g,o,none⟩:=by
 unfold World.cell?
 simp only[h]
theorem Sl.turn {y z:World} {g o b:Nat} {l:List Int} {cs:List Value} {t:TypeId} (h:Sl y g o l) (hT:Tn y b cs t z) (hne:g≠b):Sl z g o l:=
 ⟨nJ h.1 hT.size,fun i hi=>(O1 (hT.far g h.1 hne) _).trans (h.2 i hi)⟩
def zn:List Int:=aA 12
theorem FN (n:Nat):aE (aA n):=by
 intro i
 have e:(aA n).getD i 0=0:=by
  unfold aA
  simp only[List.getD_eq_getElem?_getD,List.getElem?_replicate]
  split<;>rfl
 rw[e];exact⟨by decide,by decide⟩
theorem adG:aE zn:=FN 12
theorem uD (B:Nat→List Int) (E text:List Int):aE (qF B E text):=by
 unfold qF OP
 exact bI (xB _ _ _) (by unfold hJ gG;exact uW _ _ (fun i=>by omega))
def KE (key h text:List Int):List Int:=qF (blk key zn) h text
theorem KF (key h text:List Int):(KE key h text).length=text.length+16:=IB _ _ _
set_option maxRecDepth 10000 in
set_option maxHeartbeats 2000000 in
theorem VT (c h key text:List Int) (r:List Value) (hc:c.length=32) (hh:h.length=32) (hk:key.length=32) (hhb:aE h) (hkb:aE key) (htb:aE text) (n:Nat) (hn:text.length=n) (hn2:n≤65536) (tg to_ tc:Nat) (htc:n≤tc) (htc2:tc≤9223372036854775807) (b:Nat) (hb3:3<b) (t:TypeId) (w:World) (hr:w.heap[b]? =some (.cells (eF c h r).toArray t)) (ht:dU w) (hS:Sl w tg to_ text):
 Calls prog 89 #[.pointer (some ⟨b,0,none⟩),.agg (Iv .u8 key),.slice (some ⟨tg,to_,none⟩) n tc] w fun x w'=>∃g cap,x=.returned (.slice (some ⟨g,0,none⟩) (n+16) cap)∧w.heap.size≤g∧n+16≤cap∧cap≤9223372036854775807∧Sl w' g 0 (KE key h text)∧Tn w b (eF c (dS (h++KE key h text)) r) t w':=by
 obtain⟨X,eX⟩:∃X,KE key h text=X:=⟨_,rfl⟩
 have hXl:X.length=n+16:=by rw[←eX,KF,hn]
 have hXb:aE X:=by rw[←eX];exact uD _ _ _
 rw[eX]
 have EX:Hid (qF (blk key zn) h text=X):=eX
 have HXL:Hid _:=hXl
 have HXB:Hid _:=hXb
 have HC:Hid _:=hc
 have H32:Hid _:=hh
 have Hkey:Hid _:=hk
 have HHB:Hid _:=hhb
 have HKB:Hid _:=hkb
 have HTB:Hid _:=htb
 have HN:Hid _:=hn
 have HTC:Hid (n≤tc∧tc≤9223372036854775807∧n≤65536):=⟨htc,htc2,hn2⟩
 have HT:Hid (dU w):=ht
 have HS:Hid _:=hS
 have S0:Hid _:=Sx.start hr
 have HLB:Hid _:=(Array.getElem?_eq_some_iff.1 hr).1
 clear eX hc hh hk hhb hkb htb hn hn2 htc htc2 ht hr hS hXl hXb
 go_enter func89,ntmps89
 go_wp2_with fail
 obtain⟨n0,e0⟩:∃n,w.heap.size=n:=⟨_,rfl⟩
 have S1:=S0.out.alloc n0 e0 (Iv .u8 key) 22
 rw[e0]
 obtain⟨W,hW⟩:∃W,w.alloc (.cells (Iv .u8 key) 22)=W:=⟨_,rfl⟩
 rw[hW]at S1⊢
 have S:Hid _:=S1.drew
 have HS2:Hid (Sl W.drew tg to_ text):=Sl.later HS.out (show Below w.heap.size w W.drew by rw[←hW];exact bDr ((Below.refl _ _).alloc (nQ _) _) 1) HS.out.1
 have E0:Hid _:=e0
 clear hW S1 S0 e0 HS
 refine wRt 8 (fun w'=>∃x:Wp (fun v=>Sx w b (eF c h r) t [(n0,Iv .u8 key,22)] v),w'=x.w) (.held [0,1,2,3] (.tail 4 (.held [5,6] (.tail 7 (.last 8 .done))))) fJ (by kernel_rfl) ⟨⟨_,S.out⟩,rfl⟩ ?_
 obtain⟨y0,ey⟩:∃y,y=W.drew:=⟨_,rfl⟩
 rw[←ey]at S HS2⊢
 clear ey
 refine wTh ?_
 simp only[oS]
 refine wqLr rfl 22 _ rfl n0 rfl _ (Iv .u8 key) _ _ (fun w' hw'=>by obtain⟨x,rfl⟩:=hw';exact x.p.at (.head _)) underlying22 rfl (aM Hkey.out) ?_
 simp only[pS]
 refine aD rfl (.agg (Iv .u8 zn)) (fun w'=>by kernel_rfl) ?_
 simp only[pS]
 refine aD rfl (.slice (some ⟨tg,to_,none⟩) n tc) (fun w'=>by kernel_rfl) ?_
 simp only[pS]
 refine aD rfl (.pointer (some ⟨b,0,none⟩)) (fun w'=>by kernel_rfl) ?_
 simp only[pS]
 refine wqN ?_
 refine wTt ?_
 simp only[oS]
 go_wp2_with fail
 refine⟨⟨⟨_,S.out⟩,rfl⟩,?_⟩
 refine wTh ?_
 simp only[oS]
 refine aD rfl (.pointer (some ⟨b,32,none⟩)) (fun w'=>by kernel_rfl) ?_
 simp only[pS]
 refine aD rfl (.slice (some ⟨b,32,none⟩) 32 32) (fun w'=>by kernel_rfl) ?_
 simp only[pS]
 refine wqN ?_
 refine wTt ?_
 simp only[oS]
 go_wp2_with fail
 refine(I7 OF key zn Hkey.out rfl (blk key zn) (TR key zn) (NA key zn Hkey.out rfl HKB.out adG) (TQ key zn) text h n 32 HN.out H32.out HTC.out.2.2 (by decide) HTB.out HHB.out tg to_ tc b 32 32 y0 HS2.out (Sl.of_range (Array.getElem?_eq_some_iff.1 S.out.here).1 (abR S.out.here HC.out H32.out)) HTC.out.1 HTC.out.2.1 (S.out.tabs HT.out hb3).mix).mono ?_
 rintro x y1 ⟨v,rfl,hO,hv,hb1⟩
 rw[EX.out]at hO
 obtain⟨g,cap,rfl,hg1,hg2,hg3,hg4,hg5, -⟩:=hO.held (n+16) HXL.out (by omega)
 have S1:Hid _:=S.out.later hb1
 have G:Hid (Sl y1 g 0 X):=Sl.of_own hO
 have hn0:=S.out.tn.size
 have GN:Hid (g≠b):=by show _≠_;have h1:=(Array.getElem?_eq_some_iff.1 S.out.here).1;omega
 have GC:Hid (w.heap.size≤g∧n+16≤cap∧cap≤9223372036854775807):=⟨by omega,hg3,hg4⟩
 clear hb1 hO hv hg1 hg2 hg3 hg4 hg5 hn0 S HS2
 go_wp2_with fail
 refine⟨⟨⟨_,S1.out⟩,rfl⟩,?_⟩
 refine wTl ?_
 simp only[oS]
 go_wp2_with fail
 refine bN ?_
 go_wp2_with fail
 refine(tT c h X r HC.out H32.out HHB.out (some ⟨g,0,none⟩) (n+16) cap (by have h1:=HXL.out;have h2:=HTC.out.2.2;omega) b t y1 ⟨_,_,_,rfl,HXL.out,GC.out.2.1,GC.out.2.2,HXB.out,.inr ⟨g,0,rfl,fun j hj=>G.out.2 j (by rw[HXL.out];exact hj)⟩⟩ S1.out.here (S1.out.tabs HT.out hb3)).mono ?_
 rintro x y2 ⟨rfl,hT⟩
 have S2:Hid _:=S1.out.turn hT
 have G2:Hid _:=G.out.turn hT GN.out
 clear hT S1
 go_wp2_with fail
 exact bodyPost_ret (v:=.slice (some ⟨g,0,none⟩) (n+16) cap) (by kernel_rfl) rfl ⟨g,cap,rfl,GC.out.1,GC.out.2.1,GC.out.2.2,G2.out,S2.out.tn⟩
theorem kJ:prog.follows .mixedOrders=true:=by kernel_rfl
theorem NG (a:Nat) (ha:a<18446744073709551616):bits .and .u64 (a:Int) 4294967295=((a%4294967296:Nat):Int):=by
 have h:=bits_and_u64_nat a 4294967295 ha (by omega)
 have e:a&&& 4294967295=a%4294967296:=Nat.and_two_pow_sub_one_eq_mod a 32
 rw[e]at h
 exact h
theorem acC (a:Nat):(a:Int) / 4294967296=((a / 4294967296:Nat):Int):=by omega
theorem acD (a b:Nat):(a:Int)*(b:Int)=((a*b:Nat):Int):=(Int.natCast_mul a b).symm
theorem acB (a b:Nat):(a:Int)+(b:Int)=((a+b:Nat):Int):=(Int.natCast_add a b).symm
theorem tK (a:Nat) (ha:a<18446744073709551616):IntKind.u64.wrap (a:Int)=(a:Int):=by rw[IntKind.wrap_u64];omega
theorem WZ (a:Nat):IntKind.u64.wrap (a:Int)=((a%18446744073709551616:Nat):Int):=by rw[IntKind.wrap_u64];omega
set_option maxHeartbeats 1000000 in
theorem SA (x y:Nat) (hx:x<18446744073709551616) (hy:y<18446744073709551616) (w:World):
 Calls prog 146 #[.int .u64 x,.int .u64 y] w fun e w'=>e=.returned (.tuple #[.int .u64 ((x*y / 18446744073709551616:Nat):Int),.int .u64 ((x*y%18446744073709551616:Nat):Int)])∧w'=w:=by
 obtain⟨bd,bt,bw,hhi⟩:=Lib.mul64_hi x y hx hy
 have ba:=Lib.half_mul_le (a:=x / 4294967296) (b:=y / 4294967296) (by omega) (by omega)
 have bb:=Lib.half_mul_le (a:=x / 4294967296) (b:=y%4294967296) (by omega) (by omega)
 have bc:=Lib.half_mul_le (a:=x%4294967296) (b:=y / 4294967296) (by omega) (by omega)
 have ba':x / 4294967296*(y / 4294967296)<18446744073709551616:=by omega
 have bb':x / 4294967296*(y%4294967296)<18446744073709551616:=by omega
 have bc':x%4294967296*(y / 4294967296)<18446744073709551616:=by omega
 have bh1:x / 4294967296*(y / 4294967296)+(x / 4294967296*(y%4294967296)+x%4294967296*(y%4294967296) / 4294967296) / 4294967296<18446744073709551616:=by omega
 have bh:x / 4294967296*(y / 4294967296)+(x / 4294967296*(y%4294967296)+x%4294967296*(y%4294967296) / 4294967296) / 4294967296+((x / 4294967296*(y%4294967296)+x%4294967296*(y%4294967296) / 4294967296)%4294967296+x%4294967296*(y / 4294967296)) / 4294967296<18446744073709551616:=by omega
 go_enter func146,ntmps146
 go_wp2
 simp only[NG x hx,NG y hy,acC,acD,acB,tK _ bd,tK _ bb',tK _ bt,NG _ bt,tK _ bc',tK _ bw,tK _ ba',tK _ bh1,tK _ bh,WZ (x*y)]
 rw[hhi]
 go_ret2
 exact⟨rfl,rfl⟩
theorem RZ (x y:Int) (hx:0≤x∧x≤18446744073709551615) (hy:0≤y∧y≤18446744073709551615) (w:World):
 Calls prog 146 #[.int .u64 x,.int .u64 y] w fun e w'=>e=.returned (.tuple #[.int .u64 (x*y / 18446744073709551616),.int .u64 (x*y%18446744073709551616)])∧w'=w:=by
 obtain⟨a,rfl⟩:∃a:Nat,x=a:=⟨x.toNat,by omega⟩
 obtain⟨b,rfl⟩:∃b:Nat,y=b:=⟨y.toNat,by omega⟩
 refine(SA a b (by omega) (by omega) w).mono ?_
 rintro e w' ⟨rfl,rfl⟩
 refine⟨?_,rfl⟩
 simp only[←Int.natCast_mul,Int.natCast_ediv,Int.natCast_emod]
 rfl
theorem BD (x y c:Int) (hx:0≤x) (hy:0≤y) (hc0:0≤c) (hc:c≤1) (w:World):
 (callFunc 147 #[.int .u64 x,.int .u64 y,.int .u64 c]).run prog w=.ok (.value (.tuple #[.int .u64 ((x+y+c)%18446744073709551616),.int .u64 ((x+y+c) / 18446744073709551616)])) w:=by
 rw[run_callFunc_extern func147 (by kernel_rfl) (by kernel_rfl) (by kernel_rfl) (e:=add64Entry) (by kernel_rfl),run_add64 x y c hx hy hc0 hc]
 rfl
def bF (v:Int):Array Value:=#[.int .u64 (v / 18446744073709551616),.int .u64 (v%18446744073709551616)]
theorem ZA:(prog.info? 225).map (·.size)=some 2:=by kernel_rfl
set_option maxHeartbeats 1000000 in
theorem bP (v a b:Int) (hv:0≤v) (ha:0≤a∧a≤18446744073709551615) (hb:0≤b∧b≤18446744073709551615) (hs:v+a*b<340282366920938463463374607431768211456) (r:Int) (hr:v+a*b=r) (w:World):
 Calls prog 135 #[.agg (bF v),.int .u64 a,.int .u64 b] w fun e w'=>e=.returned (.agg (bF r))∧Below w.heap.size w w':=by
 have h0:0≤a*b:=Int.mul_nonneg ha.1 hb.1
 have HM:Hid (∀W,Calls prog 146 #[.int .u64 a,.int .u64 b] W fun e w'=>e=.returned (.tuple #[.int .u64 (a*b / 18446744073709551616),.int .u64 (a*b%18446744073709551616)])∧w'=W):=fun W=>RZ a b ha hb W
 generalize a*b=q at*
 obtain⟨H,eH⟩:∃H,v / 18446744073709551616=H:=⟨_,rfl⟩
 obtain⟨L,eL⟩:∃L,v%18446744073709551616=L:=⟨_,rfl⟩
 obtain⟨h,eh⟩:∃h,q / 18446744073709551616=h:=⟨_,rfl⟩
 obtain⟨l,el⟩:∃l,q%18446744073709551616=l:=⟨_,rfl⟩
 have HW:Hid (#[Value.int .u64 ((H+h+(L+l) / 18446744073709551616)%18446744073709551616),.int .u64 ((L+l)%18446744073709551616)]=bF r):=by
  show _=_
  unfold bF
  have e1:(H+h+(L+l) / 18446744073709551616)%18446744073709551616=r / 18446744073709551616:=by omega
  have e2:(L+l)%18446744073709551616=r%18446744073709551616:=by omega
  rw[e1,e2]
 have hH:0≤H:=by omega
 have hL:0≤L:=by omega
 have hh:0≤h:=by omega
 have hl:0≤l:=by omega
 have A1:=BD L l 0 hL hl (by decide) (by decide)
 simp only[Int.add_zero]at A1
 have A2:=BD H h ((L+l) / 18446744073709551616) hH hh (by omega) (by omega)
 rw[show bF v=#[.int .u64 H,.int .u64 L] by unfold bF;rw[eH,eL]]
 rw[eh,el]at HM
 clear eH eL eh el hs hr hv h0
 go_enter func135,ntmps135
 go_wp2_with fail
 refine(HM.out _).mono ?_
 rintro e w' ⟨rfl,rfl⟩
 go_wp2
 refine bodyPost_ret (results_cell_row rfl _ _ _ _ #[.int .u64 ((H+h+(L+l) / 18446744073709551616)%18446744073709551616),.int .u64 ((L+l)%18446744073709551616)] _ _ rfl (by rw[cC,if_pos (by simp)]) underlying225 rfl ZA) rfl ⟨?_,((Below.refl _ _).alloc (nQ _) _).alloc (by simp) _⟩
 exact congrArg _ (congrArg _ HW.out)
theorem aaZ (k:Nat) (m x y:Int) (hm:m=((2^k:Nat):Int)) (hx:0≤x) (hy:0≤y) (hyk:y<m) (h:x*m+y<18446744073709551616):bits .or .u64 (x*m) y=x*m+y:=by
 obtain⟨a,rfl⟩:∃a:Nat,x=a:=⟨x.toNat,by omega⟩
 obtain⟨b,rfl⟩:∃b:Nat,y=b:=⟨y.toNat,by omega⟩
 subst hm
 have e:(a:Int)*((2^k:Nat):Int)=((2^k*a:Nat):Int):=by rw[Nat.mul_comm,Int.natCast_mul]
 rw[e]at h⊢
 have hb:b<2^k:=Int.ofNat_lt.1 hyk
 rw[bits_or_u64_nat _ _ (by omega) (by omega),←Nat.two_pow_add_eq_or_of_lt hb a]
 omega
theorem u0 (k:Nat) (m x y:Int) (hm:m=((2^k:Nat):Int)) (hx:0≤x) (hy:0≤y) (hyk:y<m) (h:x*m+y<18446744073709551616):bits .or .u64 y (x*m)=x*m+y:=by
 obtain⟨a,rfl⟩:∃a:Nat,x=a:=⟨x.toNat,by omega⟩
 obtain⟨b,rfl⟩:∃b:Nat,y=b:=⟨y.toNat,by omega⟩
 subst hm
 have e:(a:Int)*((2^k:Nat):Int)=((2^k*a:Nat):Int):=by rw[Nat.mul_comm,Int.natCast_mul]
 rw[e]at h⊢
 have hb:b<2^k:=Int.ofNat_lt.1 hyk
 rw[bits_or_u64_nat _ _ (by omega) (by omega),Nat.or_comm,←Nat.two_pow_add_eq_or_of_lt hb a]
 omega
theorem nH (x:Int) (hx:0≤x) (hx2:x<18446744073709551616):bits .and .u64 x 2251799813685247=x%2251799813685248:=by
 obtain⟨a,rfl⟩:∃a:Nat,x=a:=⟨x.toNat,by omega⟩
 have h:=bits_and_u64_nat a 2251799813685247 (by omega) (by decide)
 have e:a&&& 2251799813685247=a%2251799813685248:=Nat.and_two_pow_sub_one_eq_mod a 51
 rw[e]at h
 rw[show((a%2251799813685248:Nat):Int)=(a:Int)%2251799813685248 by omega]at h
 exact h
set_option maxHeartbeats 1000000 in
theorem kP (v:Int) (hv:0≤v) (hs:v<41538374868278621028243970633760768) (w:World):
 Calls prog 136 #[.agg (bF v)] w fun e w'=>e=.returned (.int .u64 (v / 2251799813685248))∧Below w.heap.size w w':=by
 obtain⟨H,eH⟩:∃H,v / 18446744073709551616=H:=⟨_,rfl⟩
 obtain⟨L,eL⟩:∃L,v%18446744073709551616=L:=⟨_,rfl⟩
 have hH0:0≤H:=by omega
 have hL0:0≤L:=by omega
 have hH2:H<2251799813685248:=by omega
 have hL2:L<18446744073709551616:=by omega
 have HV:Hid (bits .or .u64 (H*8192) (L / 2251799813685248)=v / 2251799813685248):=by
  show _=_
  rw[aaZ 13 8192 H (L / 2251799813685248) (by decide) hH0 (by omega) (by omega) (by omega)]
  omega
 rw[show bF v=#[.int .u64 H,.int .u64 L] by unfold bF;rw[eH,eL]]
 clear eH eL hs hv
 go_enter func136,ntmps136
 go_wp2
 go_ret
 exact⟨congrArg _ (congrArg _ HV.out),(Below.refl _ _).alloc (nQ _) _⟩
def pF:Int:=57896044618658097711785492504343953926634992332820282019728792003956564819949
def mD (a b c d e:Int):Int:=a+2251799813685248*b+5070602400912917605986812821504*c+11417981541647679048466287755595961091061972992*d+25711008708143844408671393477458601640355247900524685364822016*e
def El (a b c d e:Int):Prop:=(0≤a∧a<2251799813685312)∧(0≤b∧b<2251799813685248)∧(0≤c∧c<2251799813685248)∧(0≤d∧d<2251799813685248)∧(0≤e∧e<2251799813685248)
theorem kI:(prog.info? 211).map (·.size)=some 5:=by kernel_rfl
theorem KK (x0 x1 x2 x3 x4:Int) (h0:0≤x0∧x0≤9223372036854775807) (h1:0≤x1∧x1≤6755399441055744) (h2:0≤x2∧x2≤6755399441055744) (h3:0≤x3∧x3≤6755399441055744) (h4:0≤x4∧x4≤6755399441055744)
 (y0 y1 y2 y3 y4 c0 c1 c2 c3 c4:Int) (e0:y0=x0) (f0:c0=y0 / 2251799813685248) (e1:y1=x1+c0) (f1:c1=y1 / 2251799813685248) (e2:y2=x2+c1) (f2:c2=y2 / 2251799813685248) (e3:y3=x3+c2) (f3:c3=y3 / 2251799813685248) (e4:y4=x4+c3) (f4:c4=y4 / 2251799813685248):
 El (y0%2251799813685248+19*c4) (y1%2251799813685248) (y2%2251799813685248) (y3%2251799813685248) (y4%2251799813685248)∧
 mD (y0%2251799813685248+19*c4) (y1%2251799813685248) (y2%2251799813685248) (y3%2251799813685248) (y4%2251799813685248)=mD x0 x1 x2 x3 x4 - c4*pF:=by
 unfold El mD pF
 omega
def mP (x0 x1 x2 x3 x4:Int):List Int:=
 let c0:=x0 / 2251799813685248
 let c1:=(x1+c0) / 2251799813685248
 let c2:=(x2+c1) / 2251799813685248
 let c3:=(x3+c2) / 2251799813685248
 let c4:=(x4+c3) / 2251799813685248
 [x0%2251799813685248+19*c4,(x1+c0)%2251799813685248,(x2+c1)%2251799813685248,(x3+c2)%2251799813685248,(x4+c3)%2251799813685248]
def vL:List Int→Int
 | [a,b,c,d,e]=>mD a b c d e
 | _=>0
def fY:List Int→Prop
 | [a,b,c,d,e]=>El a b c d e
 | _=>False
theorem fY.five {l:List Int} (h:fY l):∃a b c d e,l=[a,b,c,d,e]∧El a b c d e:=by
 match l,h with
 | [a,b,c,d,e],h=>exact⟨a,b,c,d,e,rfl,h⟩
theorem fY.length {l:List Int} (h:fY l):l.length=5:=by
 obtain⟨a,b,c,d,e,rfl,_⟩:=h.five
 rfl
def bT (l:List Int) (n:Int):Prop:=fY l∧∃q,vL l=n - q*pF
theorem xM (x0 x1 x2 x3 x4:Int) (h0:0≤x0∧x0≤9223372036854775807) (h1:0≤x1∧x1≤6755399441055744) (h2:0≤x2∧x2≤6755399441055744) (h3:0≤x3∧x3≤6755399441055744) (h4:0≤x4∧x4≤6755399441055744):bT (mP x0 x1 x2 x3 x4) (mD x0 x1 x2 x3 x4):=by
 have h:=KK x0 x1 x2 x3 x4 h0 h1 h2 h3 h4 _ _ _ _ _ _ _ _ _ _ rfl rfl rfl rfl rfl rfl rfl rfl rfl rfl
 exact⟨h.1,_,h.2⟩
theorem aZ {l:List Int} (h:l.length=5):(prog.info? 211).map (·.size)=some (Iv .u64 l).size:=by rw[aC,h];exact kI
theorem IN {l:List Int} (h:l.length=5):(Iv .u64 [0,0,0,0,0]).size=(Iv .u64 l).size:=by rw[aC,aC,h];rfl
set_option maxHeartbeats 4000000 in
theorem nI (x0 x1 x2 x3 x4:Int) (h0:0≤x0∧x0≤9223372036854775807) (h1:0≤x1∧x1≤6755399441055744) (h2:0≤x2∧x2≤6755399441055744) (h3:0≤x3∧x3≤6755399441055744) (h4:0≤x4∧x4≤6755399441055744) (w:World):
 Calls prog 134 #[.agg (Iv .u64 [x0,x1,x2,x3,x4])] w fun e w'=>e=.returned (.agg (Iv .u64 (mP x0 x1 x2 x3 x4)))∧Below w.heap.size w w':=by
 obtain⟨R,hR⟩:∃R,mP x0 x1 x2 x3 x4=R:=⟨_,rfl⟩
 have HR:Hid _:=hR
 rw[hR]
 clear hR
 obtain⟨c0,f0⟩:∃c,c=x0 / 2251799813685248:=⟨_,rfl⟩
 obtain⟨c1,f1⟩:∃c,c=(x1+c0) / 2251799813685248:=⟨_,rfl⟩
 obtain⟨c2,f2⟩:∃c,c=(x2+c1) / 2251799813685248:=⟨_,rfl⟩
 obtain⟨c3,f3⟩:∃c,c=(x3+c2) / 2251799813685248:=⟨_,rfl⟩
 obtain⟨c4,f4⟩:∃c,c=(x4+c3) / 2251799813685248:=⟨_,rfl⟩
 have k0:0≤c0∧c0≤4096:=by omega
 have k1:0≤c1∧c1≤4:=by omega
 have k2:0≤c2∧c2≤4:=by omega
 have k3:0≤c3∧c3≤4:=by omega
 have k4:0≤c4∧c4≤4:=by omega
 have a0:=nH x0 h0.1 (by omega)
 have a1:=nH (x1+c0) (by omega) (by omega)
 have a2:=nH (x2+c1) (by omega) (by omega)
 have a3:=nH (x3+c2) (by omega) (by omega)
 have a4:=nH (x4+c3) (by omega) (by omega)
 obtain⟨r0,e0⟩:∃r,x0%2251799813685248=r:=⟨_,rfl⟩
 obtain⟨r1,e1⟩:∃r,(x1+c0)%2251799813685248=r:=⟨_,rfl⟩
 obtain⟨r2,e2⟩:∃r,(x2+c1)%2251799813685248=r:=⟨_,rfl⟩
 obtain⟨r3,e3⟩:∃r,(x3+c2)%2251799813685248=r:=⟨_,rfl⟩
 obtain⟨r4,e4⟩:∃r,(x4+c3)%2251799813685248=r:=⟨_,rfl⟩
 have l0:0≤r0∧r0<2251799813685248:=by omega
 have HN:Hid ([r0+19*c4,r1,r2,r3,r4]=R):=by
  show _=_
  rw[←HR.out]
  unfold mP
  simp only
  rw[←f0,←f1,←f2,←f3,←f4,e0,e1,e2,e3,e4]
 rw[e0]at a0
 rw[e1]at a1
 rw[e2]at a2
 rw[e3]at a3
 rw[e4]at a4
 have F0:=f0.symm
 have F1:=f1.symm
 have F2:=f2.symm
 have F3:=f3.symm
 have F4:=f4.symm
 clear f0 f1 f2 f3 f4 e0 e1 e2 e3 e4 HR
 have hrow:∀a b c d e:Int,Iv .u64 [a,b,c,d,e]=#[.int .u64 a,.int .u64 b,.int .u64 c,.int .u64 d,.int .u64 e]:=fun _ _ _ _ _=>rfl
 rw[hrow]
 go_enter func134,ntmps134
 go_wp2
 refine wp_loop_rounds 6 ?_
 iterate 6 (rw[rdS];go_wp2)
 refine bodyPost_ret (v:=.agg (Iv .u64 [r0+19*c4,r1,r2,r3,r4])) (results_cell_row rfl _ _ _ _ (Iv .u64 [r0+19*c4,r1,r2,r3,r4]) _ _ rfl (by rw[cC,if_pos (by simp)];rfl) underlying211 rfl kI) rfl ⟨?_,((Below.refl _ _).alloc (by simp) _).alloc (by simp) _⟩
 rw[HN.out]
theorem wH {B:Nat} {a w:World} (h:Below B a w):Below B a w.drew:=bDr h 1
def rF:List Int→List Int→List Int
 | [a0,a1,a2,a3,a4],[b0,b1,b2,b3,b4]=>mP (a0+b0) (a1+b1) (a2+b2) (a3+b3) (a4+b4)
 | _,_=>[]
def mW:List Int→List Int→List Int
 | [a0,a1,a2,a3,a4],[b0,b1,b2,b3,b4]=>mP (a0+(4503599627370458 - b0)) (a1+(4503599627370494 - b1)) (a2+(4503599627370494 - b2)) (a3+(4503599627370494 - b3)) (a4+(4503599627370494 - b4))
 | _,_=>[]
theorem LY (a b:List Int) (ha:fY a) (hb:fY b):bT (rF a b) (vL a+vL b):=by
 obtain⟨a0,a1,a2,a3,a4,rfl,hA0,hA1,hA2,hA3,hA4⟩:=ha.five
 obtain⟨b0,b1,b2,b3,b4,rfl,hB0,hB1,hB2,hB3,hB4⟩:=hb.five
 obtain⟨h1,q,h2⟩:=xM (a0+b0) (a1+b1) (a2+b2) (a3+b3) (a4+b4) (by omega) (by omega) (by omega) (by omega) (by omega)
 refine⟨h1,q,?_⟩
 show vL (mP _ _ _ _ _)=mD _ _ _ _ _+mD _ _ _ _ _ - _
 rw[h2]
 unfold mD
 omega
theorem GV (a b:List Int) (ha:fY a) (hb:fY b):bT (mW a b) (vL a - vL b):=by
 obtain⟨a0,a1,a2,a3,a4,rfl,hA0,hA1,hA2,hA3,hA4⟩:=ha.five
 obtain⟨b0,b1,b2,b3,b4,rfl,hB0,hB1,hB2,hB3,hB4⟩:=hb.five
 obtain⟨h1,q,h2⟩:=xM (a0+(4503599627370458 - b0)) (a1+(4503599627370494 - b1)) (a2+(4503599627370494 - b2)) (a3+(4503599627370494 - b3)) (a4+(4503599627370494 - b4)) (by omega) (by omega) (by omega) (by omega) (by omega)
 refine⟨h1,q - 2,?_⟩
 show vL (mP _ _ _ _ _)=mD _ _ _ _ _ - mD _ _ _ _ _ - _
 rw[h2]
 unfold mD pF
 omega
set_option maxHeartbeats 4000000 in
theorem yH (a b:List Int) (ha:fY a) (hb:fY b) (w:World):
 Calls prog 144 #[.agg (Iv .u64 a),.agg (Iv .u64 b)] w fun e w'=>e=.returned (.agg (Iv .u64 (rF a b)))∧Below w.heap.size w w':=by
 obtain⟨a0,a1,a2,a3,a4,rfl,hA0,hA1,hA2,hA3,hA4⟩:=ha.five
 obtain⟨b0,b1,b2,b3,b4,rfl,hB0,hB1,hB2,hB3,hB4⟩:=hb.five
 have HC:Hid (∀W,_):=fun W=>nI (a0+b0) (a1+b1) (a2+b2) (a3+b3) (a4+b4) (by omega) (by omega) (by omega) (by omega) (by omega) W
 have hl:Hid ((mP (a0+b0) (a1+b1) (a2+b2) (a3+b3) (a4+b4)).length=5):=rfl
 rw[show rF [a0,a1,a2,a3,a4] [b0,b1,b2,b3,b4]=mP (a0+b0) (a1+b1) (a2+b2) (a3+b3) (a4+b4)from rfl]
 generalize mP (a0+b0) (a1+b1) (a2+b2) (a3+b3) (a4+b4)=R at*
 have hrow:∀a b c d e:Int,Iv .u64 [a,b,c,d,e]=#[.int .u64 a,.int .u64 b,.int .u64 c,.int .u64 d,.int .u64 e]:=fun _ _ _ _ _=>rfl
 rw[hrow,hrow]
 clear ha hb
 go_enter func144,ntmps144
 go_wp2
 refine wp_loop_rounds 6 ?_
 iterate 5
  rw[rdS];go_wp2
  refine wRh 8 kJ (by kernel_rfl) ?_
  simp only[tU,tJ,dJ,dY]
  repeat(go_big_quiet_step (fail))
  refine wqN ?_
  go_wp2
 rw[rdS];go_wp2_with fail
 refine(HC.out _).mono ?_
 rintro e w1 ⟨rfl,hb⟩
 have B1:Hid (Below w.heap.size w w1):=by
  refine Below.trans ?_ (hb.mono (by simp<;>omega))
  repeat(first|exact Below.refl _ _|refine wH ?_ |refine Below.alloc ?_ (by simp<;>omega) _)
 have G1:Hid (w1.heap[w.heap.size+1+1]? =some (.cells (Iv .u64 [0,0,0,0,0]) 211)):=by
  show _=_
  rw[hb.block _ (by simp<;>omega)]
  simp only[heap_drew,cC,wU]
  (repeat(first|rw[if_neg (by omega)]|rw[if_pos (by omega)]));try rfl
 clear hb HC
 go_wp2_with(refine wpPr rfl 211 _ _ rfl (w.heap.size+1+1) (Iv .u64 R) rfl rfl _ _ G1.out (aZ hl.out) (IN hl.out) (aH _ _) (fun W hP=>sH ?_))
 refine aG ?_
 have B2:=hP.below _ _ B1.out (by omega)
 have G2:=hP.here
 go_wp2
 exact bodyPost_ret (v:=.agg (Iv .u64 R)) (results_cell_row rfl _ _ _ _ (Iv .u64 R) _ _ rfl G2 underlying211 rfl (aZ hl.out)) rfl ⟨rfl,B2⟩
set_option maxHeartbeats 4000000 in
theorem uY (a b:List Int) (ha:fY a) (hb:fY b) (w:World):
 Calls prog 145 #[.agg (Iv .u64 a),.agg (Iv .u64 b)] w fun e w'=>e=.returned (.agg (Iv .u64 (mW a b)))∧Below w.heap.size w w':=by
 obtain⟨a0,a1,a2,a3,a4,rfl,hA0,hA1,hA2,hA3,hA4⟩:=ha.five
 obtain⟨b0,b1,b2,b3,b4,rfl,hB0,hB1,hB2,hB3,hB4⟩:=hb.five
 have HC:Hid (∀W,_):=fun W=>nI (a0+(4503599627370458 - b0)) (a1+(4503599627370494 - b1)) (a2+(4503599627370494 - b2)) (a3+(4503599627370494 - b3)) (a4+(4503599627370494 - b4)) (by omega) (by omega) (by omega) (by omega) (by omega) W
 have hl:Hid ((mP (a0+(4503599627370458 - b0)) (a1+(4503599627370494 - b1)) (a2+(4503599627370494 - b2)) (a3+(4503599627370494 - b3)) (a4+(4503599627370494 - b4))).length=5):=rfl
 rw[show mW [a0,a1,a2,a3,a4] [b0,b1,b2,b3,b4]=mP (a0+(4503599627370458 - b0)) (a1+(4503599627370494 - b1)) (a2+(4503599627370494 - b2)) (a3+(4503599627370494 - b3)) (a4+(4503599627370494 - b4))from rfl]
 generalize mP (a0+(4503599627370458 - b0)) (a1+(4503599627370494 - b1)) (a2+(4503599627370494 - b2)) (a3+(4503599627370494 - b3)) (a4+(4503599627370494 - b4))=R at*
 have hrow:∀a b c d e:Int,Iv .u64 [a,b,c,d,e]=#[.int .u64 a,.int .u64 b,.int .u64 c,.int .u64 d,.int .u64 e]:=fun _ _ _ _ _=>rfl
 rw[hrow,hrow]
 clear ha hb
 go_enter func145,ntmps145
 go_wp2
 refine wp_loop_rounds 5 ?_
 iterate 4
  rw[rdS];go_wp2
  refine wRh 9 kJ (by kernel_rfl) ?_
  simp only[tU,tJ,dJ,dY]
  repeat(go_big_quiet_step (fail))
  refine wqN ?_
  go_wp2
 rw[rdS];go_wp2_with fail
 refine(HC.out _).mono ?_
 rintro e w1 ⟨rfl,hb⟩
 have B1:Hid (Below w.heap.size w w1):=by
  refine Below.trans ?_ (hb.mono (by simp<;>omega))
  repeat(first|exact Below.refl _ _|refine wH ?_ |refine Below.alloc ?_ (by simp<;>omega) _)
 have G1:Hid (w1.heap[w.heap.size+1+1]? =some (.cells (Iv .u64 [0,0,0,0,0]) 211)):=by
  show _=_
  rw[hb.block _ (by simp<;>omega)]
  simp only[heap_drew,cC,wU]
  (repeat(first|rw[if_neg (by omega)]|rw[if_pos (by omega)]));try rfl
 clear hb HC
 go_wp2_with(refine wpPr rfl 211 _ _ rfl (w.heap.size+1+1) (Iv .u64 R) rfl rfl _ _ G1.out (aZ hl.out) (IN hl.out) (aH _ _) (fun W hP=>sH ?_))
 refine aG ?_
 have B2:=hP.below _ _ B1.out (by omega)
 have G2:=hP.here
 go_wp2
 exact bodyPost_ret (v:=.agg (Iv .u64 R)) (results_cell_row rfl _ _ _ _ (Iv .u64 R) _ _ rfl G2 underlying211 rfl (aZ hl.out)) rfl ⟨rfl,B2⟩
end Go.Proofs.YtgcepckaolkeoaaGreatDoor
