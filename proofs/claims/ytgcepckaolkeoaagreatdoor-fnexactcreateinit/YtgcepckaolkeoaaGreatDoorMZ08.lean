import Derived.Test.YtgcepckaolkeoaaGreatDoorMZ05
namespace Go.Proofs.YtgcepckaolkeoaaGreatDoor
open Go.RowKit
open Go.Proofs.Tryz
open Go renaming heap_alloc_new → hAN, rounds_succ → rdS
open Go.World renaming block_lt_of_cell? → wJ
open Nat renaming le_refl → nQ
set_option linter.unusedVariables false
theorem kA:prog.follows .mixedOrders=true:=by kernel_rfl
theorem YP (x:Int) (w:World) (h:fP x):Calls prog 117 #[.int .u32 x,.int .i64 16] w fun e w'=>e=.returned (.int .u32 (rl 16 x))∧∃d,w'=w.drewN d:=by
 have hr:rl 16 x=x / 65536+x%65536*65536:=rfl
 have HR:Hid (rl 16 x=x / 65536+x%65536*65536):=hr
 clear hr
 obtain⟨h0,h1⟩:=h
 have hx:(0:Int)≤x%65536:=by omega
 have hx1:x%65536<65536:=by omega
 go_enter func117,ntmps117
 go_wp2_with go_in
 go_quiet (fail)
 go_wp2
 go_ret
 refine⟨?_,nq,rfl⟩
 rw[HR.out]
 rfl
theorem YN (x:Int) (w:World) (h:fP x):Calls prog 117 #[.int .u32 x,.int .i64 12] w fun e w'=>e=.returned (.int .u32 (rl 20 x))∧∃d,w'=w.drewN d:=by
 have hr:rl 20 x=x / 4096+x%4096*1048576:=rfl
 have HR:Hid (rl 20 x=x / 4096+x%4096*1048576):=hr
 clear hr
 obtain⟨h0,h1⟩:=h
 have hx:(0:Int)≤x%4096:=by omega
 have hx1:x%4096<4096:=by omega
 go_enter func117,ntmps117
 go_wp2_with go_in
 go_quiet (fail)
 go_wp2
 go_ret
 refine⟨?_,nq,rfl⟩
 rw[HR.out]
 rfl
theorem abB (x:Int) (w:World) (h:fP x):Calls prog 117 #[.int .u32 x,.int .i64 8] w fun e w'=>e=.returned (.int .u32 (rl 24 x))∧∃d,w'=w.drewN d:=by
 have hr:rl 24 x=x / 256+x%256*16777216:=rfl
 have HR:Hid (rl 24 x=x / 256+x%256*16777216):=hr
 clear hr
 obtain⟨h0,h1⟩:=h
 have hx:(0:Int)≤x%256:=by omega
 have hx1:x%256<256:=by omega
 go_enter func117,ntmps117
 go_wp2_with go_in
 go_quiet (fail)
 go_wp2
 go_ret
 refine⟨?_,nq,rfl⟩
 rw[HR.out]
 rfl
theorem abA (x:Int) (w:World) (h:fP x):Calls prog 117 #[.int .u32 x,.int .i64 7] w fun e w'=>e=.returned (.int .u32 (rl 25 x))∧∃d,w'=w.drewN d:=by
 have hr:rl 25 x=x / 128+x%128*33554432:=rfl
 have HR:Hid (rl 25 x=x / 128+x%128*33554432):=hr
 clear hr
 obtain⟨h0,h1⟩:=h
 have hx:(0:Int)≤x%128:=by omega
 have hx1:x%128<128:=by omega
 go_enter func117,ntmps117
 go_wp2_with go_in
 go_quiet (fail)
 go_wp2
 go_ret
 refine⟨?_,nq,rfl⟩
 rw[HR.out]
 rfl
theorem lN:(prog.info? 107).map (·.size)=some 16:=by kernel_rfl
theorem NX:(prog.info? 174).map (·.size)=some 8:=by kernel_rfl
def oV (r:Nat):List Int:=(DS r).map Int.ofNat
theorem kV (r:Nat):(oV r).length=16:=by unfold oV DS;split<;>rfl
theorem OK (r i:Nat):(oV r).getD i 0=(sg r i:Int):=by
 unfold oV sg
 simp only[List.getD_eq_getElem?_getD,List.getElem?_map]
 cases (DS r)[i]? <;>rfl
theorem UY (w:World):Calls prog 97 #[] w fun e w'=>e=.returned (.agg (Iv .u32 k8))∧Below w.heap.size w w':=by
 go_enter func97,ntmps97
 go_wp2
 exact bodyPost_ret (v:=.agg (Iv .u32 k8)) (results_cell_row rfl _ _ w.heap.size 174 (Iv .u32 k8) (0,0) _ rfl (hAN _ _) underlying174 rfl NX) rfl ⟨rfl,(Below.refl _ _).alloc (nQ _) _⟩
theorem abC (w:World):Calls prog 115 #[.int .i64 0] w fun e w'=>e=.returned (.agg (Iv .i64 (oV 0)))∧Below w.heap.size w w':=by
 go_enter func115,ntmps115
 go_wp2
 exact bodyPost_ret (v:=.agg (Iv .i64 (oV 0))) (results_cell_row rfl _ _ w.heap.size 107 (Iv .i64 (oV 0)) (0,0) _ rfl (hAN _ _) underlying107 rfl lN) rfl ⟨rfl,(Below.refl _ _).alloc (nQ _) _⟩
theorem abD (w:World):Calls prog 115 #[.int .i64 1] w fun e w'=>e=.returned (.agg (Iv .i64 (oV 1)))∧Below w.heap.size w w':=by
 go_enter func115,ntmps115
 go_wp2
 exact bodyPost_ret (v:=.agg (Iv .i64 (oV 1))) (results_cell_row rfl _ _ w.heap.size 107 (Iv .i64 (oV 1)) (0,0) _ rfl (hAN _ _) underlying107 rfl lN) rfl ⟨rfl,(Below.refl _ _).alloc (nQ _) _⟩
theorem abE (w:World):Calls prog 115 #[.int .i64 2] w fun e w'=>e=.returned (.agg (Iv .i64 (oV 2)))∧Below w.heap.size w w':=by
 go_enter func115,ntmps115
 go_wp2
 exact bodyPost_ret (v:=.agg (Iv .i64 (oV 2))) (results_cell_row rfl _ _ w.heap.size 107 (Iv .i64 (oV 2)) (0,0) _ rfl (hAN _ _) underlying107 rfl lN) rfl ⟨rfl,(Below.refl _ _).alloc (nQ _) _⟩
theorem abF (w:World):Calls prog 115 #[.int .i64 3] w fun e w'=>e=.returned (.agg (Iv .i64 (oV 3)))∧Below w.heap.size w w':=by
 go_enter func115,ntmps115
 go_wp2
 exact bodyPost_ret (v:=.agg (Iv .i64 (oV 3))) (results_cell_row rfl _ _ w.heap.size 107 (Iv .i64 (oV 3)) (0,0) _ rfl (hAN _ _) underlying107 rfl lN) rfl ⟨rfl,(Below.refl _ _).alloc (nQ _) _⟩
theorem abG (w:World):Calls prog 115 #[.int .i64 4] w fun e w'=>e=.returned (.agg (Iv .i64 (oV 4)))∧Below w.heap.size w w':=by
 go_enter func115,ntmps115
 go_wp2
 exact bodyPost_ret (v:=.agg (Iv .i64 (oV 4))) (results_cell_row rfl _ _ w.heap.size 107 (Iv .i64 (oV 4)) (0,0) _ rfl (hAN _ _) underlying107 rfl lN) rfl ⟨rfl,(Below.refl _ _).alloc (nQ _) _⟩
theorem abH (w:World):Calls prog 115 #[.int .i64 5] w fun e w'=>e=.returned (.agg (Iv .i64 (oV 5)))∧Below w.heap.size w w':=by
 go_enter func115,ntmps115
 go_wp2
 exact bodyPost_ret (v:=.agg (Iv .i64 (oV 5))) (results_cell_row rfl _ _ w.heap.size 107 (Iv .i64 (oV 5)) (0,0) _ rfl (hAN _ _) underlying107 rfl lN) rfl ⟨rfl,(Below.refl _ _).alloc (nQ _) _⟩
theorem abI (w:World):Calls prog 115 #[.int .i64 6] w fun e w'=>e=.returned (.agg (Iv .i64 (oV 6)))∧Below w.heap.size w w':=by
 go_enter func115,ntmps115
 go_wp2
 exact bodyPost_ret (v:=.agg (Iv .i64 (oV 6))) (results_cell_row rfl _ _ w.heap.size 107 (Iv .i64 (oV 6)) (0,0) _ rfl (hAN _ _) underlying107 rfl lN) rfl ⟨rfl,(Below.refl _ _).alloc (nQ _) _⟩
theorem abJ (w:World):Calls prog 115 #[.int .i64 7] w fun e w'=>e=.returned (.agg (Iv .i64 (oV 7)))∧Below w.heap.size w w':=by
 go_enter func115,ntmps115
 go_wp2
 exact bodyPost_ret (v:=.agg (Iv .i64 (oV 7))) (results_cell_row rfl _ _ w.heap.size 107 (Iv .i64 (oV 7)) (0,0) _ rfl (hAN _ _) underlying107 rfl lN) rfl ⟨rfl,(Below.refl _ _).alloc (nQ _) _⟩
theorem abK (w:World):Calls prog 115 #[.int .i64 8] w fun e w'=>e=.returned (.agg (Iv .i64 (oV 8)))∧Below w.heap.size w w':=by
 go_enter func115,ntmps115
 go_wp2
 exact bodyPost_ret (v:=.agg (Iv .i64 (oV 8))) (results_cell_row rfl _ _ w.heap.size 107 (Iv .i64 (oV 8)) (0,0) _ rfl (hAN _ _) underlying107 rfl lN) rfl ⟨rfl,(Below.refl _ _).alloc (nQ _) _⟩
theorem abL (w:World):Calls prog 115 #[.int .i64 9] w fun e w'=>e=.returned (.agg (Iv .i64 (oV 9)))∧Below w.heap.size w w':=by
 go_enter func115,ntmps115
 go_wp2
 exact bodyPost_ret (v:=.agg (Iv .i64 (oV 9))) (results_cell_row rfl _ _ w.heap.size 107 (Iv .i64 (oV 9)) (0,0) _ rfl (hAN _ _) underlying107 rfl lN) rfl ⟨rfl,(Below.refl _ _).alloc (nQ _) _⟩
theorem SU (r:Nat) (hr:r<10) (w:World):Calls prog 115 #[.int .i64 r] w fun e w'=>e=.returned (.agg (Iv .i64 (oV r)))∧Below w.heap.size w w':=by
 have hc:r=0∨r=1∨r=2∨r=3∨r=4∨r=5∨r=6∨r=7∨r=8∨r=9:=by omega
 rcases hc with rfl|rfl|rfl|rfl|rfl|rfl|rfl|rfl|rfl|rfl
 ·exact abC w
 ·exact abD w
 ·exact abE w
 ·exact abF w
 ·exact abG w
 ·exact abH w
 ·exact abI w
 ·exact abJ w
 ·exact abK w
 ·exact abL w
theorem MY (i:Nat) (h:i<8) (w:World):Calls prog 116 #[.int .i64 i] w fun e w'=>e=.returned (.tuple #[.int .i64 (q0 i),.int .i64 (q1 i),.int .i64 (q2 i),.int .i64 (q3 i)])∧w'=w:=by
 have hc:i=0∨i=1∨i=2∨i=3∨i=4∨i=5∨i=6∨i=7:=by omega
 rcases hc with rfl|rfl|rfl|rfl|rfl|rfl|rfl|rfl
 all_goals
  go_enter func116,ntmps116
  go_wp2
  exact bodyPost_ret (v:=.tuple #[.int .i64 _,.int .i64 _,.int .i64 _,.int .i64 _]) (by simp[results,results116,go_sem];exact⟨rfl,rfl,rfl,rfl⟩) rfl ⟨rfl,rfl⟩
theorem sA:(prog.info? 23).map (fun i=>(i.zero,i.size,i.bytes))=some (some (.int .u32 0),1,4):=by kernel_rfl
def bE (zs:List Int) (n:Nat):List Int:=(List.range n).map (aF zs)
theorem J6 (zs:List Int) (k:Nat):bE zs (k+1)=bE zs k++[aF zs k]:=by simp[bE,List.range_succ]
theorem pR (zs:List Int) (k:Nat):(bE zs k).length=k:=by simp[bE]
theorem Q8 (zs:List Int) (i:Nat) (h:zs.length≤i):zs.getD i 0=0:=by simp[List.getD_eq_getElem?_getD,List.getElem?_eq_none h]
set_option maxRecDepth 10000 in
set_option maxHeartbeats 4000000 in
theorem zL (zs:List Int) (m n:Nat) (hm:zs.length=m) (hz:aE zs) (hn:n≤1000) (hm2:m≤100000) (a:Option Addr) (cap:Nat) (w:World) (hr:WJ .u8 w a zs):
 Calls prog 49 #[.slice a m cap,.int .i64 n] w fun e w'=>∃v,e=.returned v∧bX .u32 23 w.heap.size w' v (bE zs n)∧Below w.heap.size w w':=by
 go_enter func49,ntmps49
 go_wp2
 go_loopw [5,6] (fun v i wr=>∃k:Nat,k≤n∧i=.int .i64 k∧bX .u32 23 w.heap.size wr v (bE zs k)∧Below w.heap.size w wr) (fun _ i _=>n - (intOf i).toNat)
 case atStart=>
  exact⟨0,Nat.zero_le _,rfl,bX.nil w (nQ _),(Below.refl _ _).alloc (nQ _) _⟩
 case round=>
  obtain⟨k,hk,rfl,hown,hbel⟩:=hrel
  have HS:Hid (bE zs (k+1)=bE zs k++[zs.getD (4*k) 0+256*zs.getD (4*k+1) 0+65536*zs.getD (4*k+2) 0+16777216*zs.getD (4*k+3) 0]):=J6 zs k
  have HL:Hid ((bE zs k).length≤100000000):=by show _≤_;rw[pR];omega
  have hsz:=hbel.size
  by_cases hlt:k<n
  ·obtain⟨WX,rfl⟩:∃X,X=wr:=⟨_,rfl⟩
   have hz0:=hz (4*k)
   have hz1:=hz (4*k+1)
   have hz2:=hz (4*k+2)
   have hz3:=hz (4*k+3)
   have HC:Hid (∀i,i<m→∃b o,a=some ⟨b,o,none⟩∧WX.cell? ⟨b,o+i,none⟩=some (.int .u8 (zs.getD i 0))):=by
    intro i hi
    obtain⟨b,o,h1,h2⟩:=hr i (by omega)
    exact⟨b,o,h1,(hbel.cell (p:=⟨b,o+i,none⟩) (wJ _ _ h2)).trans h2⟩
   have HP:Hid (∀i,m≤i→zs.getD i 0=0):=fun i hi=>Q8 zs i (by omega)
   clear hr hz
   have hc:m≤4*k∨m=4*k+1∨m=4*k+2∨m=4*k+3∨4*k+4≤m:=by omega
   rcases hc with hc|hc|hc|hc|hc
   ·have p0:Hid (zs.getD (4*k) 0=0):=HP.out _ (by omega)
    have p1:Hid (zs.getD (4*k+1) 0=0):=HP.out _ (by omega)
    have p2:Hid (zs.getD (4*k+2) 0=0):=HP.out _ (by omega)
    have p3:Hid (zs.getD (4*k+3) 0=0):=HP.out _ (by omega)
    have e:Hid (bE zs (k+1)=bE zs k++[0]):=by show _=_;rw[HS.out,p0.out,p1.out,p2.out,p3.out];rfl
    clear HS HP HC p0 p1 p2 p3 hz0 hz1 hz2 hz3
    have h0:¬((4:Int)*k<m):=by omega
    have h1:¬((4:Int)*k+1<m):=by omega
    have h2:¬((4:Int)*k+2<m):=by omega
    have h3:¬((4:Int)*k+3<m):=by omega
    go_wp2
    refine wp_loop_rounds 5 ?_
    iterate 4 (rw[rdS];go_wp2)
    rw[rdS]
    go_wp2_with(at_builtin;refine cI .u32 102 23 4 underlying102 sA (by decide) rfl (.tmp 38) (.tmp 40) rfl w.heap.size w WX _ (bE zs k) _ rfl rfl hown hbel hsz HL.out ?_;intro v' w' hown' hbel' _ _)
    go_roundw
    case rel=>exact⟨k+1,by omega,by go_num,by rw[e.out];exact hown',hbel'⟩
    case measure=>simp[intOf];omega
   ·have hb:∃b o,a=some ⟨b,o,none⟩:=by obtain⟨b,o,h1,_⟩:=HC.out (4*k) (by omega);exact⟨b,o,h1⟩
    obtain⟨b,o,rfl⟩:=hb
    have d0:WX.cell? ⟨b,o+4*k,none⟩=some (.int .u8 (zs.getD (4*k) 0)):=by obtain⟨b',o',h1,h2⟩:=HC.out (4*k) (by omega);simp only[Option.some.injEq,Addr.mk.injEq]at h1;obtain⟨rfl,rfl,_⟩:=h1;exact h2
    have p1:Hid (zs.getD (4*k+1) 0=0):=HP.out _ (by omega)
    have p2:Hid (zs.getD (4*k+2) 0=0):=HP.out _ (by omega)
    have p3:Hid (zs.getD (4*k+3) 0=0):=HP.out _ (by omega)
    generalize zs.getD (4*k) 0=z0 at*
    have e:Hid (bE zs (k+1)=bE zs k++[z0]):=by show _=_;rw[HS.out,p1.out,p2.out,p3.out];congr 2;omega
    clear HS HP HC p1 p2 p3 hz1 hz2 hz3
    obtain⟨x0,y0⟩:=hz0
    have h0:(4:Int)*k<m:=by omega
    have h1:¬((4:Int)*k+1<m):=by omega
    have h2:¬((4:Int)*k+2<m):=by omega
    have h3:¬((4:Int)*k+3<m):=by omega
    clear hc
    go_wp2
    refine wp_loop_rounds 5 ?_
    iterate 4 (rw[rdS];go_wp2)
    rw[rdS]
    go_wp2_with(at_builtin;refine cI .u32 102 23 4 underlying102 sA (by decide) rfl (.tmp 38) (.tmp 40) rfl w.heap.size w WX _ (bE zs k) _ rfl rfl hown hbel hsz HL.out ?_;intro v' w' hown' hbel' _ _)
    go_roundw
    case rel=>
     refine⟨k+1,by omega,by go_num,?_,hbel'⟩
     rw[e.out]
     exact lR hown' (by omega)
    case measure=>simp[intOf];omega
   ·have hb:∃b o,a=some ⟨b,o,none⟩:=by obtain⟨b,o,h1,_⟩:=HC.out (4*k) (by omega);exact⟨b,o,h1⟩
    obtain⟨b,o,rfl⟩:=hb
    have d0:WX.cell? ⟨b,o+4*k,none⟩=some (.int .u8 (zs.getD (4*k) 0)):=by obtain⟨b',o',h1,h2⟩:=HC.out (4*k) (by omega);simp only[Option.some.injEq,Addr.mk.injEq]at h1;obtain⟨rfl,rfl,_⟩:=h1;exact h2
    have d1:WX.cell? ⟨b,o+(4*k+1),none⟩=some (.int .u8 (zs.getD ((4*k+1)) 0)):=by obtain⟨b',o',h1,h2⟩:=HC.out ((4*k+1)) (by omega);simp only[Option.some.injEq,Addr.mk.injEq]at h1;obtain⟨rfl,rfl,_⟩:=h1;exact h2
    have p2:Hid (zs.getD (4*k+2) 0=0):=HP.out _ (by omega)
    have p3:Hid (zs.getD (4*k+3) 0=0):=HP.out _ (by omega)
    generalize zs.getD (4*k) 0=z0 at*
    generalize zs.getD (4*k+1) 0=z1 at*
    have e:Hid (bE zs (k+1)=bE zs k++[z0+256*z1]):=by show _=_;rw[HS.out,p2.out,p3.out];congr 2;omega
    clear HS HP HC p2 p3 hz2 hz3
    obtain⟨x0,y0⟩:=hz0
    obtain⟨x1,y1⟩:=hz1
    have h0:(4:Int)*k<m:=by omega
    have h1:(4:Int)*k+1<m:=by omega
    have h2:¬((4:Int)*k+2<m):=by omega
    have h3:¬((4:Int)*k+3<m):=by omega
    clear hc
    go_wp2
    refine wp_loop_rounds 5 ?_
    iterate 4 (rw[rdS];go_wp2)
    rw[rdS]
    go_wp2_with(at_builtin;refine cI .u32 102 23 4 underlying102 sA (by decide) rfl (.tmp 38) (.tmp 40) rfl w.heap.size w WX _ (bE zs k) _ rfl rfl hown hbel hsz HL.out ?_;intro v' w' hown' hbel' _ _)
    go_roundw
    case rel=>
     refine⟨k+1,by omega,by go_num,?_,hbel'⟩
     rw[e.out]
     exact lR hown' (by omega)
    case measure=>simp[intOf];omega
   ·have hb:∃b o,a=some ⟨b,o,none⟩:=by obtain⟨b,o,h1,_⟩:=HC.out (4*k) (by omega);exact⟨b,o,h1⟩
    obtain⟨b,o,rfl⟩:=hb
    have d0:WX.cell? ⟨b,o+4*k,none⟩=some (.int .u8 (zs.getD (4*k) 0)):=by obtain⟨b',o',h1,h2⟩:=HC.out (4*k) (by omega);simp only[Option.some.injEq,Addr.mk.injEq]at h1;obtain⟨rfl,rfl,_⟩:=h1;exact h2
    have d1:WX.cell? ⟨b,o+(4*k+1),none⟩=some (.int .u8 (zs.getD ((4*k+1)) 0)):=by obtain⟨b',o',h1,h2⟩:=HC.out ((4*k+1)) (by omega);simp only[Option.some.injEq,Addr.mk.injEq]at h1;obtain⟨rfl,rfl,_⟩:=h1;exact h2
    have d2:WX.cell? ⟨b,o+(4*k+2),none⟩=some (.int .u8 (zs.getD ((4*k+2)) 0)):=by obtain⟨b',o',h1,h2⟩:=HC.out ((4*k+2)) (by omega);simp only[Option.some.injEq,Addr.mk.injEq]at h1;obtain⟨rfl,rfl,_⟩:=h1;exact h2
    have p3:Hid (zs.getD (4*k+3) 0=0):=HP.out _ (by omega)
    generalize zs.getD (4*k) 0=z0 at*
    generalize zs.getD (4*k+1) 0=z1 at*
    generalize zs.getD (4*k+2) 0=z2 at*
    have e:Hid (bE zs (k+1)=bE zs k++[z0+256*z1+65536*z2]):=by show _=_;rw[HS.out,p3.out];congr 2;omega
    clear HS HP HC p3 hz3
    obtain⟨x0,y0⟩:=hz0
    obtain⟨x1,y1⟩:=hz1
    obtain⟨x2,y2⟩:=hz2
    have h0:(4:Int)*k<m:=by omega
    have h1:(4:Int)*k+1<m:=by omega
    have h2:(4:Int)*k+2<m:=by omega
    have h3:¬((4:Int)*k+3<m):=by omega
    clear hc
    go_wp2
    refine wp_loop_rounds 5 ?_
    iterate 4 (rw[rdS];go_wp2)
    rw[rdS]
    go_wp2_with(at_builtin;refine cI .u32 102 23 4 underlying102 sA (by decide) rfl (.tmp 38) (.tmp 40) rfl w.heap.size w WX _ (bE zs k) _ rfl rfl hown hbel hsz HL.out ?_;intro v' w' hown' hbel' _ _)
    go_roundw
    case rel=>
     refine⟨k+1,by omega,by go_num,?_,hbel'⟩
     rw[e.out]
     exact lR hown' (by omega)
    case measure=>simp[intOf];omega
   ·have hb:∃b o,a=some ⟨b,o,none⟩:=by obtain⟨b,o,h1,_⟩:=HC.out (4*k) (by omega);exact⟨b,o,h1⟩
    obtain⟨b,o,rfl⟩:=hb
    have d0:WX.cell? ⟨b,o+4*k,none⟩=some (.int .u8 (zs.getD (4*k) 0)):=by obtain⟨b',o',h1,h2⟩:=HC.out (4*k) (by omega);simp only[Option.some.injEq,Addr.mk.injEq]at h1;obtain⟨rfl,rfl,_⟩:=h1;exact h2
    have d1:WX.cell? ⟨b,o+(4*k+1),none⟩=some (.int .u8 (zs.getD ((4*k+1)) 0)):=by obtain⟨b',o',h1,h2⟩:=HC.out ((4*k+1)) (by omega);simp only[Option.some.injEq,Addr.mk.injEq]at h1;obtain⟨rfl,rfl,_⟩:=h1;exact h2
    have d2:WX.cell? ⟨b,o+(4*k+2),none⟩=some (.int .u8 (zs.getD ((4*k+2)) 0)):=by obtain⟨b',o',h1,h2⟩:=HC.out ((4*k+2)) (by omega);simp only[Option.some.injEq,Addr.mk.injEq]at h1;obtain⟨rfl,rfl,_⟩:=h1;exact h2
    have d3:WX.cell? ⟨b,o+(4*k+3),none⟩=some (.int .u8 (zs.getD ((4*k+3)) 0)):=by obtain⟨b',o',h1,h2⟩:=HC.out ((4*k+3)) (by omega);simp only[Option.some.injEq,Addr.mk.injEq]at h1;obtain⟨rfl,rfl,_⟩:=h1;exact h2
    generalize zs.getD (4*k) 0=z0 at*
    generalize zs.getD (4*k+1) 0=z1 at*
    generalize zs.getD (4*k+2) 0=z2 at*
    generalize zs.getD (4*k+3) 0=z3 at*
    have e:Hid (bE zs (k+1)=bE zs k++[z0+256*z1+65536*z2+16777216*z3]):=HS.out
    clear HS HP HC  
    obtain⟨x0,y0⟩:=hz0
    obtain⟨x1,y1⟩:=hz1
    obtain⟨x2,y2⟩:=hz2
    obtain⟨x3,y3⟩:=hz3
    have h0:(4:Int)*k<m:=by omega
    have h1:(4:Int)*k+1<m:=by omega
    have h2:(4:Int)*k+2<m:=by omega
    have h3:(4:Int)*k+3<m:=by omega
    clear hc
    go_wp2
    refine wp_loop_rounds 5 ?_
    iterate 4 (rw[rdS];go_wp2)
    rw[rdS]
    go_wp2_with(at_builtin;refine cI .u32 102 23 4 underlying102 sA (by decide) rfl (.tmp 38) (.tmp 40) rfl w.heap.size w WX _ (bE zs k) _ rfl rfl hown hbel hsz HL.out ?_;intro v' w' hown' hbel' _ _)
    go_roundw
    case rel=>
     refine⟨k+1,by omega,by go_num,?_,hbel'⟩
     rw[e.out]
     exact lR hown' (by omega)
    case measure=>simp[intOf];omega
  ·go_wp2
   go_ret
   obtain rfl:k=n:=by omega
   exact⟨_,rfl,hown,hbel⟩
end Go.Proofs.YtgcepckaolkeoaaGreatDoor
