import Derived.Test.YtmjccemdldidaaaGreatDoorMH03
namespace Go.Proofs.YtmjccemdldidaaaGreatDoor
open Go.RowKit
open Go.Proofs.Tryz
open Go.RowKit Go.Lib
open Go renaming heap_alloc_new → hAN, rounds_succ → rdS, wpList_load_row → wpLr, wpQuiet_nil → wqN
open Go.World renaming size_alloc → wU
open List renaming drop_succ_cons → dJ, drop_zero → dY, mem_cons_of_mem → mC, mem_cons_self → mQ, mem_singleton → mU, nil_append → nA, not_mem_nil → nY, replicate → rQ, take_succ_cons → tU, take_zero → tJ
open Nat renaming le_refl → nQ
set_option linter.unusedVariables false
set_option maxHeartbeats 4000000
theorem ahO:prog.follows .mixedOrders=true:=by kernel_rfl
theorem agG (a:Option Addr) (cap:Nat) (w:World):Calls prog 121 #[.slice a 0 cap] w fun e w'=>e=.returned (.int .u32 0)∧w'=w:=by
 go_enter func121,ntmps121
 go_wp2
 go_ret
 exact⟨rfl,rfl⟩
theorem aj5 (b o cap:Nat) (z0:Int) (w:World) (h0:0≤z0) (g0:z0≤255) (c0:w.cell? ⟨b,o,none⟩=some (.int .u8 z0)):
 Calls prog 121 #[.slice (some ⟨b,o,none⟩) 1 cap] w fun e w'=>e=.returned (.int .u32 z0)∧w'=w:=by
 have h1:bits .or .u32 0 z0=z0:=by rw[rW 0 0 z0 (by decide) h0 (by omega) (by omega) (by omega) (by decide)];omega
 go_enter func121,ntmps121
 go_wp2
 go_ret
 exact⟨rfl,rfl⟩
theorem aj6 (b o cap:Nat) (z0 z1:Int) (w:World) (h0:0≤z0) (g0:z0≤255) (h1:0≤z1) (g1:z1≤255) (c0:w.cell? ⟨b,o,none⟩=some (.int .u8 z0)) (c1:w.cell? ⟨b,o+1,none⟩=some (.int .u8 z1)):
 Calls prog 121 #[.slice (some ⟨b,o,none⟩) 2 cap] w fun e w'=>e=.returned (.int .u32 (z0+256*z1))∧w'=w:=by
 have e1:bits .or .u32 0 (z1*256)=z1*256:=by rw[rW 0 0 _ (by decide) (by omega) (by omega) (by omega) (by omega) (by decide)];omega
 have e0:bits .or .u32 (z1*256) z0=z0+256*z1:=by rw[yT 8 (z1*256) z0 (by decide) (by omega) (by omega) (by omega) (by omega) (by omega)];omega
 go_enter func121,ntmps121
 go_wp2
 go_ret
 exact⟨rfl,rfl⟩
theorem aj7 (b o cap:Nat) (z0 z1 z2:Int) (w:World) (h0:0≤z0) (g0:z0≤255) (h1:0≤z1) (g1:z1≤255) (h2:0≤z2) (g2:z2≤255) (c0:w.cell? ⟨b,o,none⟩=some (.int .u8 z0)) (c1:w.cell? ⟨b,o+1,none⟩=some (.int .u8 z1)) (c2:w.cell? ⟨b,o+2,none⟩=some (.int .u8 z2)):
 Calls prog 121 #[.slice (some ⟨b,o,none⟩) 3 cap] w fun e w'=>e=.returned (.int .u32 (z0+256*z1+65536*z2))∧w'=w:=by
 have e2:bits .or .u32 0 (z2*65536)=z2*65536:=by rw[rW 0 0 _ (by decide) (by omega) (by omega) (by omega) (by omega) (by decide)];omega
 have e1:bits .or .u32 (z2*65536) (z1*256)=z2*65536+z1*256:=yT 16 (z2*65536) (z1*256) (by decide) (by omega) (by omega) (by omega) (by omega) (by omega)
 have e0:bits .or .u32 (z2*65536+z1*256) z0=z0+256*z1+65536*z2:=by rw[yT 8 (z2*65536+z1*256) z0 (by decide) (by omega) (by omega) (by omega) (by omega) (by omega)];omega
 go_enter func121,ntmps121
 go_wp2
 go_ret
 exact⟨rfl,rfl⟩
theorem SP (ys:LI) (m:Nat) (hm:ys.length=m) (hy:m≤3) (hz:aC ys) (b o cap:Nat) (w:World) (hc:∀i,i<m→w.cell? ⟨b,o+i,none⟩=some (.int .u8 (ys.getD i 0))):
 Calls prog 121 #[.slice (some ⟨b,o,none⟩) m cap] w fun e w'=>e=.returned (.int .u32 (aF ys 0))∧w'=w:=by
 have b0:=hz 0
 have b1:=hz 1
 have b2:=hz 2
 match ys,hm with
 | [],hm=>subst hm;exact agG _ _ _
 | [z0],hm=>
   subst hm
   have:=aj5 b o cap z0 w b0.1 b0.2 (hc 0 (by simp))
   simpa[aF]using this
 | [z0,z1],hm=>
   subst hm
   have:=aj6 b o cap z0 z1 w b0.1 b0.2 b1.1 b1.2 (hc 0 (by simp)) (hc 1 (by simp))
   simpa[aF]using this
 | [z0,z1,z2],hm=>
   subst hm
   have:=aj7 b o cap z0 z1 z2 w b0.1 b0.2 b1.1 b1.2 b2.1 b2.2 (hc 0 (by simp)) (hc 1 (by simp)) (hc 2 (by simp))
   simpa[aF]using this
 | _::_::_::_::_,hm=>simp at hm;omega
theorem KG (g off n cap:Nat) (te:TypeId) (l:LI) (b o cap2:Nat) (zs:LI) (w:World)
 (hg:w.heap[g]? =some (.cells (Iv .u32 l) te)) (hl:off+n≤l.length) (hn:n≤1000) (hbg:b≠g) (hz:aC zs) (hzn:zs.length≤4*n) (hpos:0<zs.length)
 (hc:∀i,i<zs.length→w.cell? ⟨b,o+i,none⟩=some (.int .u8 (zs.getD i 0))) (hcap:zs.length≤cap2) (hcap2:cap2≤9223372036854775807):
 Calls prog 108 #[.slice (some ⟨g,off,none⟩) n cap,.slice (some ⟨b,o,none⟩) zs.length cap2] w fun e w'=>
  e=.returned (.tuple #[])∧∃d,w'=(w.setRow g (Iv .u32 (pF9 l off (aF zs) (min (zs.length / 4+1) n)))).drewN d:=by
 have hwhole:zs.length / 4≤n:=by omega
 go_enter func108,ntmps108
 go_wp2
 go_loopw [10] (fun i wr=>∃k d:Nat,k≤zs.length / 4∧i=.int .i64 k∧wr=(w.setRow g (Iv .u32 (pF9 l off (aF zs) k))).drewN d) (fun i _=>zs.length / 4 - (intOf i).toNat)
 case atStart=>
  refine⟨0,0,Nat.zero_le _,rfl,?_⟩
  rw[cR,iE w g _ _ _ hg]
  rfl
 case round=>
  obtain⟨k,d,hk,rfl,rfl⟩:=hrel
  by_cases hlt:k<zs.length / 4
  ·have d0:=hc (4*k) (by omega)
   have d1:=hc (4*k+1) (by omega)
   have d2:=hc (4*k+2) (by omega)
   have d3:=hc (4*k+3) (by omega)
   have hz0:=hz (4*k)
   have hz1:=hz (4*k+1)
   have hz2:=hz (4*k+2)
   have hz3:=hz (4*k+3)
   have hword:aF zs k=_:=rfl
   have HW:Hid (aF zs k=zs.getD (4*k) 0+256*zs.getD (4*k+1) 0+65536*zs.getD (4*k+2) 0+16777216*zs.getD (4*k+3) 0):=rfl
   clear hword
   generalize zs.getD (4*k) 0=z0 at*
   generalize zs.getD (4*k+1) 0=z1 at*
   generalize zs.getD (4*k+2) 0=z2 at*
   generalize zs.getD (4*k+3) 0=z3 at*
   have c0:(w.setRow g (Iv .u32 (pF9 l off (aF zs) k))).cell? ⟨b,o+4*k,none⟩=some (.int .u8 z0):=by rw[bB _ _ _ _ hbg];exact d0
   have c1:(w.setRow g (Iv .u32 (pF9 l off (aF zs) k))).cell? ⟨b,o+(4*k+1),none⟩=some (.int .u8 z1):=by rw[bB _ _ _ _ hbg];exact d1
   have c2:(w.setRow g (Iv .u32 (pF9 l off (aF zs) k))).cell? ⟨b,o+(4*k+2),none⟩=some (.int .u8 z2):=by rw[bB _ _ _ _ hbg];exact d2
   have c3:(w.setRow g (Iv .u32 (pF9 l off (aF zs) k))).cell? ⟨b,o+(4*k+3),none⟩=some (.int .u8 z3):=by rw[bB _ _ _ _ hbg];exact d3
   have hw:=adS z0 z1 z2 z3 hz0.1 hz0.2 hz1.1 hz1.2 hz2.1 hz2.2 hz3.1 hz3.2
   rw[←HW.out]at hw
   have HW2:Hid (_=_):=hw
   obtain⟨x0,y0⟩:=hz0
   obtain⟨x1,y1⟩:=hz1
   obtain⟨x2,y2⟩:=hz2
   obtain⟨x3,y3⟩:=hz3
   have ho:∃v,(w.setRow g (Iv .u32 (pF9 l off (aF zs) k))).cell? ⟨g,off+k,none⟩=some v:=by
    rw[eS _ _ _ _ _ _ _ hg]
    exact nD _ _ _ (by rw[aS _ _ _ _ (by omega)];omega)
   obtain⟨v,hv⟩:=ho
   have hf:(w.setRow g (Iv .u32 (pF9 l off (aF zs) k))).frozen? ⟨g,off+k,none⟩=false:=by rw[iJ];exact frozen_of_row _ _ _ _ _ hg
   clear hw d0 d1 d2 d3 hc hz
   go_wp2
   refine wRh 36 ahO (by kernel_rfl) ?_
   simp only[tU,tJ,dJ,dY]
   repeat(go_big_quiet_step (fail))
   refine wqN ?_
   go_wp2
   go_roundw
   case rel=>exact⟨k+1,d+1,by omega,by go_num,by rw[HW2.out,sZ,aK,bZ,cP _ _ _ _ (by omega)]⟩
   case measure=>simp[intOf];omega
  ·obtain rfl:k=zs.length / 4:=by omega
   have hmin:min (zs.length / 4+1) n=if zs.length / 4<n then zs.length / 4+1 else zs.length / 4:=by split<;>omega
   have HM:Hid (_=_):=hmin
   clear hmin
   by_cases hm:zs.length / 4<n
   ·have ho:∃v,(w.setRow g (Iv .u32 (pF9 l off (aF zs) (zs.length / 4)))).cell? ⟨g,off+zs.length / 4,none⟩=some v:=by
     rw[eS _ _ _ _ _ _ _ hg]
     exact nD _ _ _ (by rw[aS _ _ _ _ (by omega)];omega)
    obtain⟨v,hv⟩:=ho
    have hf:(w.setRow g (Iv .u32 (pF9 l off (aF zs) (zs.length / 4)))).frozen? ⟨g,off+zs.length / 4,none⟩=false:=by rw[iJ];exact frozen_of_row _ _ _ _ _ hg
    have hcd:∀i,i<zs.length - 4*(zs.length / 4)→(w.setRow g (Iv .u32 (pF9 l off (aF zs) (zs.length / 4)))).cell? ⟨b,o+4*(zs.length / 4)+i,none⟩=some (.int .u8 ((zs.drop (4*(zs.length / 4))).getD i 0)):=by
     intro i hi
     rw[bB _ _ _ _ hbg]
     have:=hc (4*(zs.length / 4)+i) (by omega)
     rw[Nat.add_assoc,this]
     simp only[List.getD_eq_getElem?_getD,List.getElem?_drop]
    have HC:Hid (∀i,_):=hcd
    have HZ:Hid (aC _):=cE hz (4*(zs.length / 4))
    clear hc hz hcd
    go_wp2_with fail
    ·refine(SP [] (zs.length - 4*(zs.length / 4)) (by simp<;>omega) (by omega) (by intro i;simp) b o 0 _ (by intro i hi;omega)).mono ?_
     rintro e w1 ⟨rfl,rfl⟩
     have hnil:zs.drop (4*(zs.length / 4))=[]:=List.drop_eq_nil_of_le (by omega)
     have hw0:aF [] 0=aF zs (zs.length / 4):=by rw[←FG zs,hnil]
     rw[hw0]
     clear hw0 hnil
     go_wp2
     go_end0
     refine⟨rfl,d,?_⟩
     rw[HM.out,if_pos hm,sZ,aK,bZ,cP _ _ _ _ (by omega)]
    ·refine(SP (zs.drop (4*(zs.length / 4))) _ (by simp) (by omega) HZ.out b (o+4*(zs.length / 4)) _ _ (by exact HC.out)).mono ?_
     rintro e w1 ⟨rfl,rfl⟩
     rw[FG]
     go_wp2
     go_end0
     refine⟨rfl,d,?_⟩
     rw[HM.out,if_pos hm,sZ,aK,bZ,cP _ _ _ _ (by omega)]
   ·go_wp2
    go_end0
    exact⟨rfl,d,by rw[HM.out,if_neg hm]⟩
theorem jD (m:Nat) (g off n cap:Nat) (te:TypeId) (l:LI) (b o cap2:Nat) (zs:LI) (w:World) (hm:zs.length=m)
 (hg:w.heap[g]? =some (.cells (Iv .u32 l) te)) (hl:off+n≤l.length) (hn:n≤1000) (hbg:b≠g) (hz:aC zs) (hzn:m≤4*n) (hpos:0<m)
 (hc:∀i,i<m→w.cell? ⟨b,o+i,none⟩=some (.int .u8 (zs.getD i 0))) (hcap:m≤cap2) (hcap2:cap2≤9223372036854775807):
 Calls prog 108 #[.slice (some ⟨g,off,none⟩) n cap,.slice (some ⟨b,o,none⟩) m cap2] w fun e w'=>
  e=.returned (.tuple #[])∧∃d,w'=(w.setRow g (Iv .u32 (pF9 l off (aF zs) (min (m / 4+1) n)))).drewN d:=by
 subst hm
 exact KG g off n cap te l b o cap2 zs w hg hl hn hbg hz hzn hpos hc hcap hcap2
def nB:LI→Int
 | []=>0
 | x::r=>x+256*nB r
def ab7 (q0 q1 q2 q3:Int):LI:=oD (q0%2251799813685248) (q1%274877906944*8192+q0 / 2251799813685248) (q2%33554432*67108864+q1 / 274877906944) (q3%4096*549755813888+q2 / 33554432) (q3 / 4096)
def pV (l:LI) (i:Nat):Int:=aF l (2*i+1)*4294967296+aF l (2*i)
def vH (l:LI):LI:=ab7 (pV l 0) (pV l 1) (pV l 2) (pV l 3)
theorem ab8 (q0 q1 q2 q3:Int) (h0:0≤q0∧q0<18446744073709551616) (h1:0≤q1∧q1<18446744073709551616) (h2:0≤q2∧q2<18446744073709551616) (h3:0≤q3∧q3<18446744073709551616):
 bT (ab7 q0 q1 q2 q3) (q0+18446744073709551616*q1+340282366920938463463374607431768211456*q2+6277101735386680763835789423207666416102355444464034512896*q3):=by
 obtain⟨k1,q,k2⟩:=AG (q0%2251799813685248) (q1%274877906944*8192+q0 / 2251799813685248) (q2%33554432*67108864+q1 / 274877906944) (q3%4096*549755813888+q2 / 33554432) (q3 / 4096) (by omega) (by omega) (by omega) (by omega) (by omega)
 refine⟨k1,q,?_⟩
 unfold ab7
 rw[k2]
 unfold nS
 omega
theorem ahJ (k:Nat) (m M x y:Int) (hm:m=((2^k:Nat):Int)) (hM:M*m=2251799813685248) (hM0:0<M) (hx:0≤x) (hx2:x*m<18446744073709551616*m) (hy:0≤y) (hyk:y<m) (hz:x*m%18446744073709551616=x%(18446744073709551616 / m)*m) (hk:x%(18446744073709551616 / m)*m+y<18446744073709551616) (hf:(x%(18446744073709551616 / m)*m+y)%2251799813685248=x%M*m+y):
 bits .and .u64 (bits .or .u64 y (x*m%18446744073709551616)) 2251799813685247=x%M*m+y:=by
 have hm0:0<m:=by rw[hm];have:=Nat.two_pow_pos k;omega
 have hr:0≤x%(18446744073709551616 / m):=by
  have:0≤x%(18446744073709551616 / m)*m:=by rw[←hz];omega
  by_cases h:0≤x%(18446744073709551616 / m)
  ·exact h
  ·have h1:x%(18446744073709551616 / m)≤ -1:=by omega
   have h2:x%(18446744073709551616 / m)*m≤ -1*m:=Int.mul_le_mul_of_nonneg_right h1 (by omega)
   omega
 rw[hz,xS k m _ y hm hr hy hyk hk,oX _ (by have:=Int.mul_nonneg hr (Int.le_of_lt hm0);omega) hk,hf]
theorem ajG (x y:Int) (hx:0≤x∧x<18446744073709551616) (hy:0≤y∧y<18446744073709551616):bits .and .u64 (bits .or .u64 (y / 2251799813685248) (IntKind.u64.wrap (x*8192))) 2251799813685247=x%274877906944*8192+y / 2251799813685248:=by
 rw[IntKind.wrap_u64]
 exact ahJ 13 8192 274877906944 x (y / 2251799813685248) (by decide) (by decide) (by decide) (by omega) (by omega) (by omega) (by omega) (by omega) (by omega) (by omega)
theorem ajH (x y:Int) (hx:0≤x∧x<18446744073709551616) (hy:0≤y∧y<18446744073709551616):bits .and .u64 (bits .or .u64 (y / 274877906944) (IntKind.u64.wrap (x*67108864))) 2251799813685247=x%33554432*67108864+y / 274877906944:=by
 rw[IntKind.wrap_u64]
 exact ahJ 26 67108864 33554432 x (y / 274877906944) (by decide) (by decide) (by decide) (by omega) (by omega) (by omega) (by omega) (by omega) (by omega) (by omega)
theorem ajI (x y:Int) (hx:0≤x∧x<18446744073709551616) (hy:0≤y∧y<18446744073709551616):bits .and .u64 (bits .or .u64 (y / 33554432) (IntKind.u64.wrap (x*549755813888))) 2251799813685247=x%4096*549755813888+y / 33554432:=by
 rw[IntKind.wrap_u64]
 exact ahJ 39 549755813888 4096 x (y / 33554432) (by decide) (by decide) (by decide) (by omega) (by omega) (by omega) (by omega) (by omega) (by omega) (by omega)
theorem XP (x y:Int) (hx:0≤x∧x<4294967296) (hy:0≤y∧y<4294967296):bits .or .u64 y (x*4294967296)=x*4294967296+y:=
 xS 32 4294967296 x y (by decide) hx.1 hy.1 hy.2 (by omega)
theorem heap_drewN (w:World) (n i:Nat):(w.drewN n).heap[i]? =w.heap[i]? :=rfl
theorem VV (w:World) (n:Nat):(w.drewN n).heap.size=w.heap.size:=rfl
theorem J7 (l:LI) (hl:l.length=32) (hz:aC l) (w:World):
 Calls prog 98 #[.agg (Iv .u8 l)] w fun e w'=>e=.returned (.agg (Iv .u64 (vH l)))∧Below w.heap.size w w':=by
 have hw:∀i,0≤aF l i∧aF l i<4294967296:=fun i=>by have:=mL hz i;omega
 have hq:∀i,0≤pV l i∧pV l i<18446744073709551616:=fun i=>by have h0:=hw (2*i);have h1:=hw (2*i+1);unfold pV;omega
 have h0:=hq 0
 have h1:=hq 1
 have h2:=hq 2
 have h3:=hq 3
 have HC:Hid (∀W,_):=fun W=>oY (pV l 0%2251799813685248) (pV l 1%274877906944*8192+pV l 0 / 2251799813685248) (pV l 2%33554432*67108864+pV l 1 / 274877906944) (pV l 3%4096*549755813888+pV l 2 / 33554432) (pV l 3 / 4096)
  (by omega) (by omega) (by omega) (by omega) (by omega) W
 have HE:Hid (oD (pV l 0%2251799813685248) (pV l 1%274877906944*8192+pV l 0 / 2251799813685248) (pV l 2%33554432*67108864+pV l 1 / 274877906944) (pV l 3%4096*549755813888+pV l 2 / 33554432) (pV l 3 / 4096)=vH l):=rfl
 rw[HE.out]at HC
 have hR:(vH l).length=5:=rfl
 have HL:Hid _:=hR
 generalize vH l=R at*
 clear HE hR
 have a0:=oX (pV l 0) h0.1 h0.2
 have l1:=ajG (pV l 1) (pV l 0) h1 h0
 have l2:=ajH (pV l 2) (pV l 1) h2 h1
 have l3:=ajI (pV l 3) (pV l 2) h3 h2
 have o0:bits .or .u64 (aF l 0) (aF l 1*4294967296)=pV l 0:=XP _ _ (hw 1) (hw 0)
 have o1:bits .or .u64 (aF l 2) (aF l 3*4294967296)=pV l 1:=XP _ _ (hw 3) (hw 2)
 have o2:bits .or .u64 (aF l 4) (aF l 5*4294967296)=pV l 2:=XP _ _ (hw 5) (hw 4)
 have o3:bits .or .u64 (aF l 6) (aF l 7*4294967296)=pV l 3:=XP _ _ (hw 7) (hw 6)
 have w0:=hw 0
 have w1:=hw 1
 have w2:=hw 2
 have w3:=hw 3
 have w4:=hw 4
 have w5:=hw 5
 have w6:=hw 6
 have w7:=hw 7
 have HZ:Hid (aC l):=hz
 have HLL:Hid (l.length=32):=hl
 have HWD:Hid (Iv .u32 (pF9 [0,0,0,0,0,0,0,0] 0 (aF l) (min (32 / 4+1) 8))=#[.int .u32 (aF l 0),.int .u32 (aF l 1),.int .u32 (aF l 2),.int .u32 (aF l 3),.int .u32 (aF l 4),.int .u32 (aF l 5),.int .u32 (aF l 6),.int .u32 (aF l 7)]):=rfl
 clear hw hq hz
 go_enter func98,ntmps98
 go_wp2
 refine wRh 2 jE (by kernel_rfl) ?_
 simp only[tU,tJ,dJ,dY]
 repeat(go_big_quiet_step (fail))
 refine wqN ?_
 go_wp2_with fail
 refine(jD 32 (w.heap.size+1+1) 0 8 8 154 [0,0,0,0,0,0,0,0] w.heap.size 0 32 l _ HLL.out ?_ (by decide) (by decide) (by omega) HZ.out (by decide) (by decide) ?_ (by decide) (by decide)).mono ?_
 ·simp only[heap_drew,cI,wU]
  simp
  rfl
 ·intro i hi
  have:=dG .u8 l i (by have:=HLL.out;omega)
  simp only[World.cell?_drew]
  rw[World.cell?_alloc_past _ _ _ (by simp<;>omega),World.cell?_alloc_past _ _ _ (by simp<;>omega),World.cell?_alloc_at _ _ _ _ rfl,Nat.zero_add,this]
  simp[show i<l.length by have:=HLL.out;omega]
 rintro e w1 ⟨rfl,d,rfl⟩
 rw[wV,qK _ _ _ _ _ (by simp),HWD.out]
 generalize aF l 0=v0 at*
 generalize aF l 1=v1 at*
 generalize aF l 2=v2 at*
 generalize aF l 3=v3 at*
 generalize aF l 4=v4 at*
 generalize aF l 5=v5 at*
 generalize aF l 6=v6 at*
 generalize aF l 7=v7 at*
 generalize pV l 0=q0 at*
 generalize pV l 1=q1 at*
 generalize pV l 2=q2 at*
 generalize pV l 3=q3 at*
 clear HWD
 go_wp2
 refine wp_loop_rounds 5 ?_
 iterate 4
  rw[rdS];go_wp2
  refine wRh 15 jE (by kernel_rfl) ?_
  simp only[tU,tJ,dJ,dY]
  repeat(go_big_quiet_step (fail))
  refine wqN ?_
  go_wp2
 rw[rdS];go_wp2_with fail
 refine(HC.out _).mono ?_
 rintro e w9 ⟨rfl,hb⟩
 have B1:Hid (Below w.heap.size w w9):=by
  refine Below.trans ?_ (hb.mono (by simp<;>omega))
  repeat(first|exact Below.refl _ _|refine zB ?_ |refine bDr ?_ _|refine Below.alloc ?_ (by simp<;>omega) _)
 have G1:Hid (w9.heap[w.heap.size+1]? =some (.cells (Iv .u64 [0,0,0,0,0]) 187)):=by
  show _=_
  rw[hb.block _ (by simp<;>omega)]
  simp only[heap_drew,heap_drewN,cI,wU,VV]
  (repeat(first|rw[if_neg (by omega)]|rw[if_pos (by omega)]));try rfl
 clear hb HC
 go_wp2_with(refine wpPr rfl 187 _ _ rfl (w.heap.size+1) (Iv .u64 R) rfl rfl _ _ G1.out (bE HL.out) (NG HL.out) (aG _ _) (fun W hP=>sH ?_))
 refine aH ?_
 have B2:=hP.below _ _ B1.out (by omega)
 have G2:=hP.here
 go_wp2
 exact bodyPost_ret (v:=.agg (Iv .u64 R)) (results_cell_row rfl _ _ _ _ (Iv .u64 R) _ _ rfl G2 underlying187 rfl (bE HL.out)) rfl ⟨rfl,B2⟩
theorem jQ {w:World} {g:Nat} {cs:Array Value} {t:TypeId} (h:w.heap[g]? =some (.cells cs t)) (o:Nat) (v:Value):nE w g (cs.setIfInBounds o v) t (w.setCell ⟨g,o,none⟩ v):=by
 have e:w.setCell ⟨g,o,none⟩ v=w.setRow g (cs.setIfInBounds o v):=nN [v] w g o cs t (0,0) h
 rw[e]
 exact fT h _
theorem aW {P:Program} {ops:Array Oper} {rest:List Oper} {op:Oper} {a:Act} {w:World} {Q:Exit→Act→World→Prop} (hgd:op.guard=none) (ty:TypeId) (x y:Operand) (ho:op.op=.store ty x y)
 (k:IntKind) (g i:Nat) (v:Int) (hx:a.eval x=.pointer (some ⟨g,i,none⟩)) (hy:a.eval y=.int k v) (l:LI) (t:TypeId) (hg:w.heap[g]? =some (.cells (Iv k l) t))
 (hs:(P.info? ty).map (·.size)=some 1) (hi:i<l.length) (new:LI) (hnew:l.set i v=new)
 (h:∀W,nE w g (Iv k new) t W→wpList P ops Q rest (a.put op.dst undef) W):wpList P ops Q (op::rest) a w:=by
 subst hnew
 have hP:=jQ hg i (.int k v)
 rw[bZ]at hP
 have h2:=h _ hP
 have ht:w.there g i (#[Value.int k v]:Array Value).size:=by
  intro j hj
  simp only[List.size_toArray,List.length_cons,List.length_nil]at hj
  obtain rfl:j=0:=by omega
  refine⟨?_,frozen_of_row w g _ _ t hg⟩
  rw[cell_of_row _ _ _ _ _ _ hg,Nat.add_zero,dG k l i hi]
  rfl
 have e:(storeVar ty ⟨g,i,none⟩ (.int k v)).run P w=.ok () (w.setCell ⟨g,i,none⟩ (.int k v)):=run_storeVar_mid w g i ty #[.int k v] ht hs (by simp[Value.oneCell'])
 refine wpList_plain hgd fun K hK=>?_
 unfold Oper.wp execOp
 simp only[ho,hx,hy,Instr.storeAt,Instr.sureAddr,Sem.run_bind,Sem.run_pure,Result.andThen_ok,e]
 exact hK _ _ h2
def Lim:LI→Prop
 | [a,b,c,d,e]=>(0≤a∧a<2251799813685248)∧(0≤b∧b<2251799813685248)∧(0≤c∧c<2251799813685248)∧(0≤d∧d<2251799813685248)∧(0≤e∧e<2251799813685248)
 | _=>False
def vI (r0 r1 r2 r3 r4:Int):LI:=
 let e0:=(r0+19) / 2251799813685248
 let e1:=(r1+e0) / 2251799813685248
 let e2:=(r2+e1) / 2251799813685248
 let e3:=(r3+e2) / 2251799813685248
 let e4:=(r4+e3) / 2251799813685248
 if 0<e4 then[(r0+19)%2251799813685248,(r1+e0)%2251799813685248,(r2+e1)%2251799813685248,(r3+e2)%2251799813685248,(r4+e3)%2251799813685248]else[r0,r1,r2,r3,r4]
def OX:LI→LI
 | [x0,x1,x2,x3,x4]=>match oD x0 x1 x2 x3 x4 with
   | [r0,r1,r2,r3,r4]=>vI r0 r1 r2 r3 r4
   | _=>[]
 | _=>[]
theorem PU (x0 x1 x2 x3 x4:Int) (h:El x0 x1 x2 x3 x4):Lim (oD x0 x1 x2 x3 x4)∧∃q,vL (oD x0 x1 x2 x3 x4)=nS x0 x1 x2 x3 x4 - q*pF:=by
 obtain⟨h0,h1,h2,h3,h4⟩:=h
 obtain⟨k1,q,k2⟩:=AG x0 x1 x2 x3 x4 (by omega) (by omega) (by omega) (by omega) (by omega)
 refine⟨?_,q,k2⟩
 unfold oD Lim
 simp only
 omega
theorem aaB (r0 r1 r2 r3 r4:Int) (h:Lim [r0,r1,r2,r3,r4]):Lim (vI r0 r1 r2 r3 r4)∧0≤vL (vI r0 r1 r2 r3 r4)∧vL (vI r0 r1 r2 r3 r4)<pF∧∃q,vL (vI r0 r1 r2 r3 r4)=nS r0 r1 r2 r3 r4 - q*pF:=by
 obtain⟨h0,h1,h2,h3,h4⟩:=h
 unfold vI
 simp only
 split
 ·rename_i h5
  unfold Lim vL nS pF
  simp only
  refine⟨by omega,by omega,by omega,1,by omega⟩
 ·rename_i h5
  unfold Lim vL nS pF
  simp only
  refine⟨by omega,by omega,by omega,0,by omega⟩
theorem ahQ (a n q:Int) (h0:0≤a) (h1:a<pF) (h:a=n - q*pF):a=n%pF:=by
 unfold pF at*
 omega
theorem afH (l:LI) (n:Int) (h:bT l n):Lim (OX l)∧vL (OX l)=n%pF:=by
 obtain⟨he,q,hq⟩:=h
 obtain⟨x0,x1,x2,x3,x4,rfl,hE⟩:=he.five
 obtain⟨k1,q1,k2⟩:=PU x0 x1 x2 x3 x4 hE
 obtain⟨r0,r1,r2,r3,r4,hr⟩:∃r0 r1 r2 r3 r4,oD x0 x1 x2 x3 x4=[r0,r1,r2,r3,r4]:=⟨_,_,_,_,_,rfl⟩
 rw[hr]at k1 k2
 obtain⟨m1,m2,m3,q2,m4⟩:=aaB r0 r1 r2 r3 r4 k1
 have e:OX [x0,x1,x2,x3,x4]=vI r0 r1 r2 r3 r4:=by unfold OX;simp only;rw[hr]
 rw[e]
 refine⟨m1,ahQ _ _ (q+q1+q2) m2 m3 ?_⟩
 have k3:nS r0 r1 r2 r3 r4=nS x0 x1 x2 x3 x4 - q1*pF:=k2
 have k4:nS x0 x1 x2 x3 x4=n - q*pF:=hq
 rw[m4,k3,k4]
 unfold pF
 omega
theorem fK:(prog.info? 51).map (·.size)=some 1:=by kernel_rfl
theorem ac8 (l:LI) (h:kL l) (w:World):
 Calls prog 115 #[.agg (Iv .u64 l)] w fun e w'=>e=.returned (.agg (Iv .u64 (OX l)))∧Below w.heap.size w w':=by
 obtain⟨x0,x1,x2,x3,x4,rfl,hE⟩:=h.five
 obtain⟨k1,_⟩:=PU x0 x1 x2 x3 x4 hE
 obtain⟨hE0,hE1,hE2,hE3,hE4⟩:=hE
 have HC:Hid (∀W,_):=fun W=>oY x0 x1 x2 x3 x4 (by omega) (by omega) (by omega) (by omega) (by omega) W
 obtain⟨r0,r1,r2,r3,r4,hr⟩:∃r0 r1 r2 r3 r4,oD x0 x1 x2 x3 x4=[r0,r1,r2,r3,r4]:=⟨_,_,_,_,_,rfl⟩
 have e:OX [x0,x1,x2,x3,x4]=vI r0 r1 r2 r3 r4:=by unfold OX;simp only;rw[hr]
 rw[e]
 rw[hr]at HC k1
 obtain⟨h0,h1,h2,h3,h4⟩:=k1
 obtain⟨e0,f0⟩:∃c,(r0+19) / 2251799813685248=c:=⟨_,rfl⟩
 obtain⟨e1,f1⟩:∃c,(r1+e0) / 2251799813685248=c:=⟨_,rfl⟩
 obtain⟨e2,f2⟩:∃c,(r2+e1) / 2251799813685248=c:=⟨_,rfl⟩
 obtain⟨e3,f3⟩:∃c,(r3+e2) / 2251799813685248=c:=⟨_,rfl⟩
 obtain⟨e4,f4⟩:∃c,(r4+e3) / 2251799813685248=c:=⟨_,rfl⟩
 have k0:0≤e0∧e0≤1:=by omega
 have k1:0≤e1∧e1≤1:=by omega
 have k2:0≤e2∧e2≤1:=by omega
 have k3:0≤e3∧e3≤1:=by omega
 have k4:0≤e4∧e4≤1:=by omega
 have a0:=oX (r0+19) (by omega) (by omega)
 have a1:=oX (r1+e0) (by omega) (by omega)
 have a2:=oX (r2+e1) (by omega) (by omega)
 have a3:=oX (r3+e2) (by omega) (by omega)
 have a4:=oX (r4+e3) (by omega) (by omega)
 have HLF:Hid (vI r0 r1 r2 r3 r4=if 0<e4 then[(r0+19)%2251799813685248,(r1+e0)%2251799813685248,(r2+e1)%2251799813685248,(r3+e2)%2251799813685248,(r4+e3)%2251799813685248]else[r0,r1,r2,r3,r4]):=by
  show _=_
  unfold vI
  simp only
  rw[f0,f1,f2,f3,f4]
 obtain⟨t0,g0⟩:∃r,(r0+19)%2251799813685248=r:=⟨_,rfl⟩
 obtain⟨t1,g1⟩:∃r,(r1+e0)%2251799813685248=r:=⟨_,rfl⟩
 obtain⟨t2,g2⟩:∃r,(r2+e1)%2251799813685248=r:=⟨_,rfl⟩
 obtain⟨t3,g3⟩:∃r,(r3+e2)%2251799813685248=r:=⟨_,rfl⟩
 obtain⟨t4,g4⟩:∃r,(r4+e3)%2251799813685248=r:=⟨_,rfl⟩
 rw[g0]at a0
 rw[g1]at a1
 rw[g2]at a2
 rw[g3]at a3
 rw[g4]at a4
 rw[g0,g1,g2,g3,g4]at HLF
 have hrow:∀a b c d e:Int,Iv .u64 [a,b,c,d,e]=#[.int .u64 a,.int .u64 b,.int .u64 c,.int .u64 d,.int .u64 e]:=fun _ _ _ _ _=>rfl
 rw[hrow]at HC⊢
 by_cases hb:0<e4
 ·have HR:Hid (vI r0 r1 r2 r3 r4=[t0,t1,t2,t3,t4]):=by show _=_;rw[HLF.out,if_pos hb]
  have e41:0<e4:=hb
  rw[HR.out]
  go_enter func115,ntmps115
  go_wp2_with fail
  refine(HC.out _).mono ?_
  rintro e w1 ⟨rfl,hb⟩
  have F1:Hid (Rw w [(w.heap.size+1,Iv .u64 [0,0,0,0,0],187),(w.heap.size,Iv .u64 [x0,x1,x2,x3,x4],187)] w1):=by
   have h:=(((Rw.start w).alloc (Iv .u64 [x0,x1,x2,x3,x4]) 187).alloc (Iv .u64 [0,0,0,0,0]) 187).later hb (nQ _)
   simp only[wU]at h
   exact h
  have G0:Hid _:=(F1.out.row _ (mC _ mQ)).2.2
  go_wp2_with(refine wpPr rfl 187 _ _ rfl w.heap.size (Iv .u64 [r0,r1,r2,r3,r4]) rfl rfl _ _ G0.out lT rfl (aG _ _) (fun w2 hP=>sH ?_))
  refine aH ?_
  have F2:Hid (Rw w [(w.heap.size,Iv .u64 [r0,r1,r2,r3,r4],187),(w.heap.size+1,Iv .u64 [0,0,0,0,0],187)] w2):=Rw.put (F1.out.sub (fun r hr=>by simp only[List.mem_cons,nY,or_false]at hr⊢;exact hr.symm)) hP (fun r hr=>by rw[mU.1 hr];show w.heap.size+1≠w.heap.size;omega)
  have G2:Hid _:=(F2.out.row _ mQ).2.2
  have KA:Hid ((w2.alloc (.cells (Iv .u64 [0,0,0,0,0]) 187)).heap[w2.heap.size]? =some (.cells (Iv .u64 [0,0,0,0,0]) 187)):=hAN _ _
  clear hP F1 G0
  go_wp2_with(first
   | refine wpLr rfl 187 _ rfl w.heap.size rfl _ (Iv .u64 [r0,r1,r2,r3,r4]) _ _ G2.out underlying187 rfl lT ?_
   | refine wpPr rfl 187 _ _ rfl w2.heap.size (Iv .u64 [r0,r1,r2,r3,r4]) rfl rfl _ _ KA.out lT rfl (aG _ _) (fun w3 hP=>sH ?_))
  refine aH ?_
  have F3:=F2.out.newRow hP
  obtain⟨g3,eg3⟩:∃x,x=w2.heap.size:=⟨_,rfl⟩
  rw[←eg3]at F3⊢
  have HF3:Hid _:=F3
  have hlt3:w.heap.size+1<g3:=by rw[eg3];exact(F2.out.row _ (mC _ mQ)).2.1
  have c0:w3.heap[g3]? =some (.cells #[.int .u64 r0,.int .u64 r1,.int .u64 r2,.int .u64 r3,.int .u64 r4] 187):=(F3.row _ mQ).2.2
  clear F3 eg3 hP KA G2 F2 c0
  go_wp2_with fail
  refine wp_loop_rounds 6 ?_
  have cA0:w3.cell? ⟨g3,0,none⟩=some (.int .u64 r0):=by rw[cell_of_row _ _ _ _ _ _ (HF3.out.row _ mQ).2.2];rfl
  have HA0:Hid _:=(HF3.out.row _ mQ).2.2
  rw[rdS]
  go_wp2_with(with_reducible refine aJ ?_;refine aW rfl 51 _ _ rfl .u64 g3 0 (r0+19) rfl rfl [r0,r1,r2,r3,r4] _ HA0.out fK (by simp) [r0+19,r1,r2,r3,r4] rfl (fun y0 hP=>sH ?_))
  refine aH ?_
  have F_y0:Hid _:=Rw.put HF3.out hP (fun r hr=>by simp only[List.mem_cons,nY,or_false]at hr;rcases hr with rfl|rfl<;>(simp only;omega))
  have cB0:y0.cell? ⟨g3,0,none⟩=some (.int .u64 (r0+19)):=by rw[cell_of_row _ _ _ _ _ _ (F_y0.out.row _ mQ).2.2];rfl
  have HB0:Hid _:=(F_y0.out.row _ mQ).2.2
  go_wp2_with(with_reducible refine aJ ?_;refine aW rfl 51 _ _ rfl .u64 g3 0 (t0) rfl rfl [r0+19,r1,r2,r3,r4] _ HB0.out fK (by simp) [t0,r1,r2,r3,r4] rfl (fun z0 hP=>sH ?_))
  refine aH ?_
  have F_z0:Hid _:=Rw.put F_y0.out hP (fun r hr=>by simp only[List.mem_cons,nY,or_false]at hr;rcases hr with rfl|rfl<;>(simp only;omega))
  go_wp2_with fail
  have cA1:z0.cell? ⟨g3,1,none⟩=some (.int .u64 r1):=by rw[cell_of_row _ _ _ _ _ _ (F_z0.out.row _ mQ).2.2];rfl
  have HA1:Hid _:=(F_z0.out.row _ mQ).2.2
  rw[rdS]
  go_wp2_with(with_reducible refine aJ ?_;refine aW rfl 51 _ _ rfl .u64 g3 1 (r1+e0) rfl rfl [t0,r1,r2,r3,r4] _ HA1.out fK (by simp) [t0,r1+e0,r2,r3,r4] rfl (fun y1 hP=>sH ?_))
  refine aH ?_
  have F_y1:Hid _:=Rw.put F_z0.out hP (fun r hr=>by simp only[List.mem_cons,nY,or_false]at hr;rcases hr with rfl|rfl<;>(simp only;omega))
  have cB1:y1.cell? ⟨g3,1,none⟩=some (.int .u64 (r1+e0)):=by rw[cell_of_row _ _ _ _ _ _ (F_y1.out.row _ mQ).2.2];rfl
  have HB1:Hid _:=(F_y1.out.row _ mQ).2.2
  go_wp2_with(with_reducible refine aJ ?_;refine aW rfl 51 _ _ rfl .u64 g3 1 (t1) rfl rfl [t0,r1+e0,r2,r3,r4] _ HB1.out fK (by simp) [t0,t1,r2,r3,r4] rfl (fun z1 hP=>sH ?_))
  refine aH ?_
  have F_z1:Hid _:=Rw.put F_y1.out hP (fun r hr=>by simp only[List.mem_cons,nY,or_false]at hr;rcases hr with rfl|rfl<;>(simp only;omega))
  go_wp2_with fail
  have cA2:z1.cell? ⟨g3,2,none⟩=some (.int .u64 r2):=by rw[cell_of_row _ _ _ _ _ _ (F_z1.out.row _ mQ).2.2];rfl
  have HA2:Hid _:=(F_z1.out.row _ mQ).2.2
  rw[rdS]
  go_wp2_with(with_reducible refine aJ ?_;refine aW rfl 51 _ _ rfl .u64 g3 2 (r2+e1) rfl rfl [t0,t1,r2,r3,r4] _ HA2.out fK (by simp) [t0,t1,r2+e1,r3,r4] rfl (fun y2 hP=>sH ?_))
  refine aH ?_
  have F_y2:Hid _:=Rw.put F_z1.out hP (fun r hr=>by simp only[List.mem_cons,nY,or_false]at hr;rcases hr with rfl|rfl<;>(simp only;omega))
  have cB2:y2.cell? ⟨g3,2,none⟩=some (.int .u64 (r2+e1)):=by rw[cell_of_row _ _ _ _ _ _ (F_y2.out.row _ mQ).2.2];rfl
  have HB2:Hid _:=(F_y2.out.row _ mQ).2.2
  go_wp2_with(with_reducible refine aJ ?_;refine aW rfl 51 _ _ rfl .u64 g3 2 (t2) rfl rfl [t0,t1,r2+e1,r3,r4] _ HB2.out fK (by simp) [t0,t1,t2,r3,r4] rfl (fun z2 hP=>sH ?_))
  refine aH ?_
  have F_z2:Hid _:=Rw.put F_y2.out hP (fun r hr=>by simp only[List.mem_cons,nY,or_false]at hr;rcases hr with rfl|rfl<;>(simp only;omega))
  go_wp2_with fail
  have cA3:z2.cell? ⟨g3,3,none⟩=some (.int .u64 r3):=by rw[cell_of_row _ _ _ _ _ _ (F_z2.out.row _ mQ).2.2];rfl
  have HA3:Hid _:=(F_z2.out.row _ mQ).2.2
  rw[rdS]
  go_wp2_with(with_reducible refine aJ ?_;refine aW rfl 51 _ _ rfl .u64 g3 3 (r3+e2) rfl rfl [t0,t1,t2,r3,r4] _ HA3.out fK (by simp) [t0,t1,t2,r3+e2,r4] rfl (fun y3 hP=>sH ?_))
  refine aH ?_
  have F_y3:Hid _:=Rw.put F_z2.out hP (fun r hr=>by simp only[List.mem_cons,nY,or_false]at hr;rcases hr with rfl|rfl<;>(simp only;omega))
  have cB3:y3.cell? ⟨g3,3,none⟩=some (.int .u64 (r3+e2)):=by rw[cell_of_row _ _ _ _ _ _ (F_y3.out.row _ mQ).2.2];rfl
  have HB3:Hid _:=(F_y3.out.row _ mQ).2.2
  go_wp2_with(with_reducible refine aJ ?_;refine aW rfl 51 _ _ rfl .u64 g3 3 (t3) rfl rfl [t0,t1,t2,r3+e2,r4] _ HB3.out fK (by simp) [t0,t1,t2,t3,r4] rfl (fun z3 hP=>sH ?_))
  refine aH ?_
  have F_z3:Hid _:=Rw.put F_y3.out hP (fun r hr=>by simp only[List.mem_cons,nY,or_false]at hr;rcases hr with rfl|rfl<;>(simp only;omega))
  go_wp2_with fail
  have cA4:z3.cell? ⟨g3,4,none⟩=some (.int .u64 r4):=by rw[cell_of_row _ _ _ _ _ _ (F_z3.out.row _ mQ).2.2];rfl
  have HA4:Hid _:=(F_z3.out.row _ mQ).2.2
  rw[rdS]
  go_wp2_with(with_reducible refine aJ ?_;refine aW rfl 51 _ _ rfl .u64 g3 4 (r4+e3) rfl rfl [t0,t1,t2,t3,r4] _ HA4.out fK (by simp) [t0,t1,t2,t3,r4+e3] rfl (fun y4 hP=>sH ?_))
  refine aH ?_
  have F_y4:Hid _:=Rw.put F_z3.out hP (fun r hr=>by simp only[List.mem_cons,nY,or_false]at hr;rcases hr with rfl|rfl<;>(simp only;omega))
  have cB4:y4.cell? ⟨g3,4,none⟩=some (.int .u64 (r4+e3)):=by rw[cell_of_row _ _ _ _ _ _ (F_y4.out.row _ mQ).2.2];rfl
  have HB4:Hid _:=(F_y4.out.row _ mQ).2.2
  go_wp2_with(with_reducible refine aJ ?_;refine aW rfl 51 _ _ rfl .u64 g3 4 (t4) rfl rfl [t0,t1,t2,t3,r4+e3] _ HB4.out fK (by simp) [t0,t1,t2,t3,t4] rfl (fun z4 hP=>sH ?_))
  refine aH ?_
  have F_z4:Hid _:=Rw.put F_y4.out hP (fun r hr=>by simp only[List.mem_cons,nY,or_false]at hr;rcases hr with rfl|rfl<;>(simp only;omega))
  go_wp2_with fail
  have HQ:Hid _:=(F_z4.out.row _ mQ).2.2
  have HZ:Hid _:=(F_z4.out.row _ (mC _ (mC _ mQ))).2.2
  rw[rdS]
  go_wp2_with(first
   | refine wpLr rfl 187 _ rfl g3 rfl _ (Iv .u64 [t0,t1,t2,t3,t4]) _ _ HQ.out underlying187 rfl lT ?_
   | refine wpPr rfl 187 _ _ rfl (w.heap.size+1) (Iv .u64 [t0,t1,t2,t3,t4]) rfl rfl _ _ HZ.out lT rfl (aG _ _) (fun W9 hP=>sH ?_))
  refine aH ?_
  have B9:=hP.below _ _ F_z4.out.bel (by omega)
  have G9:=hP.here
  go_wp2
  exact bodyPost_ret (v:=.agg (Iv .u64 [t0,t1,t2,t3,t4])) (results_cell_row rfl _ _ _ _ (Iv .u64 [t0,t1,t2,t3,t4]) _ _ rfl G9 underlying187 rfl lT) rfl ⟨rfl,B9⟩
 ·have HR:Hid (vI r0 r1 r2 r3 r4=[r0,r1,r2,r3,r4]):=by show _=_;rw[HLF.out,if_neg hb]
  have e41:=eq_false hb
  rw[HR.out]
  go_enter func115,ntmps115
  go_wp2_with fail
  refine(HC.out _).mono ?_
  rintro e w1 ⟨rfl,hb⟩
  have F1:Hid (Rw w [(w.heap.size+1,Iv .u64 [0,0,0,0,0],187),(w.heap.size,Iv .u64 [x0,x1,x2,x3,x4],187)] w1):=by
   have h:=(((Rw.start w).alloc (Iv .u64 [x0,x1,x2,x3,x4]) 187).alloc (Iv .u64 [0,0,0,0,0]) 187).later hb (nQ _)
   simp only[wU]at h
   exact h
  have G0:Hid _:=(F1.out.row _ (mC _ mQ)).2.2
  go_wp2_with(refine wpPr rfl 187 _ _ rfl w.heap.size (Iv .u64 [r0,r1,r2,r3,r4]) rfl rfl _ _ G0.out lT rfl (aG _ _) (fun w2 hP=>sH ?_))
  refine aH ?_
  have F2:Hid (Rw w [(w.heap.size,Iv .u64 [r0,r1,r2,r3,r4],187),(w.heap.size+1,Iv .u64 [0,0,0,0,0],187)] w2):=Rw.put (F1.out.sub (fun r hr=>by simp only[List.mem_cons,nY,or_false]at hr⊢;exact hr.symm)) hP (fun r hr=>by rw[mU.1 hr];show w.heap.size+1≠w.heap.size;omega)
  have G2:Hid _:=(F2.out.row _ mQ).2.2
  have KA:Hid ((w2.alloc (.cells (Iv .u64 [0,0,0,0,0]) 187)).heap[w2.heap.size]? =some (.cells (Iv .u64 [0,0,0,0,0]) 187)):=hAN _ _
  clear hP F1 G0
  go_wp2_with(first
   | refine wpLr rfl 187 _ rfl w.heap.size rfl _ (Iv .u64 [r0,r1,r2,r3,r4]) _ _ G2.out underlying187 rfl lT ?_
   | refine wpPr rfl 187 _ _ rfl w2.heap.size (Iv .u64 [r0,r1,r2,r3,r4]) rfl rfl _ _ KA.out lT rfl (aG _ _) (fun w3 hP=>sH ?_))
  refine aH ?_
  have F3:=F2.out.newRow hP
  obtain⟨g3,eg3⟩:∃x,x=w2.heap.size:=⟨_,rfl⟩
  rw[←eg3]at F3⊢
  have HF3:Hid _:=F3
  have hlt3:w.heap.size+1<g3:=by rw[eg3];exact(F2.out.row _ (mC _ mQ)).2.1
  have c0:w3.heap[g3]? =some (.cells #[.int .u64 r0,.int .u64 r1,.int .u64 r2,.int .u64 r3,.int .u64 r4] 187):=(F3.row _ mQ).2.2
  clear F3 eg3 hP KA G2 F2 c0
  go_wp2_with fail
  refine wp_loop_rounds 6 ?_
  have cA0:w3.cell? ⟨g3,0,none⟩=some (.int .u64 r0):=by rw[cell_of_row _ _ _ _ _ _ (HF3.out.row _ mQ).2.2];rfl
  have HA0:Hid _:=(HF3.out.row _ mQ).2.2
  rw[rdS]
  go_wp2_with(with_reducible refine aJ ?_;refine aW rfl 51 _ _ rfl .u64 g3 0 (r0+19) rfl rfl [r0,r1,r2,r3,r4] _ HA0.out fK (by simp) [r0+19,r1,r2,r3,r4] rfl (fun y0 hP=>sH ?_))
  refine aH ?_
  have F_y0:Hid _:=Rw.put HF3.out hP (fun r hr=>by simp only[List.mem_cons,nY,or_false]at hr;rcases hr with rfl|rfl<;>(simp only;omega))
  have cB0:y0.cell? ⟨g3,0,none⟩=some (.int .u64 (r0+19)):=by rw[cell_of_row _ _ _ _ _ _ (F_y0.out.row _ mQ).2.2];rfl
  have HB0:Hid _:=(F_y0.out.row _ mQ).2.2
  go_wp2_with(with_reducible refine aJ ?_;refine aW rfl 51 _ _ rfl .u64 g3 0 (t0) rfl rfl [r0+19,r1,r2,r3,r4] _ HB0.out fK (by simp) [t0,r1,r2,r3,r4] rfl (fun z0 hP=>sH ?_))
  refine aH ?_
  have F_z0:Hid _:=Rw.put F_y0.out hP (fun r hr=>by simp only[List.mem_cons,nY,or_false]at hr;rcases hr with rfl|rfl<;>(simp only;omega))
  go_wp2_with fail
  have cA1:z0.cell? ⟨g3,1,none⟩=some (.int .u64 r1):=by rw[cell_of_row _ _ _ _ _ _ (F_z0.out.row _ mQ).2.2];rfl
  have HA1:Hid _:=(F_z0.out.row _ mQ).2.2
  rw[rdS]
  go_wp2_with(with_reducible refine aJ ?_;refine aW rfl 51 _ _ rfl .u64 g3 1 (r1+e0) rfl rfl [t0,r1,r2,r3,r4] _ HA1.out fK (by simp) [t0,r1+e0,r2,r3,r4] rfl (fun y1 hP=>sH ?_))
  refine aH ?_
  have F_y1:Hid _:=Rw.put F_z0.out hP (fun r hr=>by simp only[List.mem_cons,nY,or_false]at hr;rcases hr with rfl|rfl<;>(simp only;omega))
  have cB1:y1.cell? ⟨g3,1,none⟩=some (.int .u64 (r1+e0)):=by rw[cell_of_row _ _ _ _ _ _ (F_y1.out.row _ mQ).2.2];rfl
  have HB1:Hid _:=(F_y1.out.row _ mQ).2.2
  go_wp2_with(with_reducible refine aJ ?_;refine aW rfl 51 _ _ rfl .u64 g3 1 (t1) rfl rfl [t0,r1+e0,r2,r3,r4] _ HB1.out fK (by simp) [t0,t1,r2,r3,r4] rfl (fun z1 hP=>sH ?_))
  refine aH ?_
  have F_z1:Hid _:=Rw.put F_y1.out hP (fun r hr=>by simp only[List.mem_cons,nY,or_false]at hr;rcases hr with rfl|rfl<;>(simp only;omega))
  go_wp2_with fail
  have cA2:z1.cell? ⟨g3,2,none⟩=some (.int .u64 r2):=by rw[cell_of_row _ _ _ _ _ _ (F_z1.out.row _ mQ).2.2];rfl
  have HA2:Hid _:=(F_z1.out.row _ mQ).2.2
  rw[rdS]
  go_wp2_with(with_reducible refine aJ ?_;refine aW rfl 51 _ _ rfl .u64 g3 2 (r2+e1) rfl rfl [t0,t1,r2,r3,r4] _ HA2.out fK (by simp) [t0,t1,r2+e1,r3,r4] rfl (fun y2 hP=>sH ?_))
  refine aH ?_
  have F_y2:Hid _:=Rw.put F_z1.out hP (fun r hr=>by simp only[List.mem_cons,nY,or_false]at hr;rcases hr with rfl|rfl<;>(simp only;omega))
  have cB2:y2.cell? ⟨g3,2,none⟩=some (.int .u64 (r2+e1)):=by rw[cell_of_row _ _ _ _ _ _ (F_y2.out.row _ mQ).2.2];rfl
  have HB2:Hid _:=(F_y2.out.row _ mQ).2.2
  go_wp2_with(with_reducible refine aJ ?_;refine aW rfl 51 _ _ rfl .u64 g3 2 (t2) rfl rfl [t0,t1,r2+e1,r3,r4] _ HB2.out fK (by simp) [t0,t1,t2,r3,r4] rfl (fun z2 hP=>sH ?_))
  refine aH ?_
  have F_z2:Hid _:=Rw.put F_y2.out hP (fun r hr=>by simp only[List.mem_cons,nY,or_false]at hr;rcases hr with rfl|rfl<;>(simp only;omega))
  go_wp2_with fail
  have cA3:z2.cell? ⟨g3,3,none⟩=some (.int .u64 r3):=by rw[cell_of_row _ _ _ _ _ _ (F_z2.out.row _ mQ).2.2];rfl
  have HA3:Hid _:=(F_z2.out.row _ mQ).2.2
  rw[rdS]
  go_wp2_with(with_reducible refine aJ ?_;refine aW rfl 51 _ _ rfl .u64 g3 3 (r3+e2) rfl rfl [t0,t1,t2,r3,r4] _ HA3.out fK (by simp) [t0,t1,t2,r3+e2,r4] rfl (fun y3 hP=>sH ?_))
  refine aH ?_
  have F_y3:Hid _:=Rw.put F_z2.out hP (fun r hr=>by simp only[List.mem_cons,nY,or_false]at hr;rcases hr with rfl|rfl<;>(simp only;omega))
  have cB3:y3.cell? ⟨g3,3,none⟩=some (.int .u64 (r3+e2)):=by rw[cell_of_row _ _ _ _ _ _ (F_y3.out.row _ mQ).2.2];rfl
  have HB3:Hid _:=(F_y3.out.row _ mQ).2.2
  go_wp2_with(with_reducible refine aJ ?_;refine aW rfl 51 _ _ rfl .u64 g3 3 (t3) rfl rfl [t0,t1,t2,r3+e2,r4] _ HB3.out fK (by simp) [t0,t1,t2,t3,r4] rfl (fun z3 hP=>sH ?_))
  refine aH ?_
  have F_z3:Hid _:=Rw.put F_y3.out hP (fun r hr=>by simp only[List.mem_cons,nY,or_false]at hr;rcases hr with rfl|rfl<;>(simp only;omega))
  go_wp2_with fail
  have cA4:z3.cell? ⟨g3,4,none⟩=some (.int .u64 r4):=by rw[cell_of_row _ _ _ _ _ _ (F_z3.out.row _ mQ).2.2];rfl
  have HA4:Hid _:=(F_z3.out.row _ mQ).2.2
  rw[rdS]
  go_wp2_with(with_reducible refine aJ ?_;refine aW rfl 51 _ _ rfl .u64 g3 4 (r4+e3) rfl rfl [t0,t1,t2,t3,r4] _ HA4.out fK (by simp) [t0,t1,t2,t3,r4+e3] rfl (fun y4 hP=>sH ?_))
  refine aH ?_
  have F_y4:Hid _:=Rw.put F_z3.out hP (fun r hr=>by simp only[List.mem_cons,nY,or_false]at hr;rcases hr with rfl|rfl<;>(simp only;omega))
  have cB4:y4.cell? ⟨g3,4,none⟩=some (.int .u64 (r4+e3)):=by rw[cell_of_row _ _ _ _ _ _ (F_y4.out.row _ mQ).2.2];rfl
  have HB4:Hid _:=(F_y4.out.row _ mQ).2.2
  go_wp2_with(with_reducible refine aJ ?_;refine aW rfl 51 _ _ rfl .u64 g3 4 (t4) rfl rfl [t0,t1,t2,t3,r4+e3] _ HB4.out fK (by simp) [t0,t1,t2,t3,t4] rfl (fun z4 hP=>sH ?_))
  refine aH ?_
  have F_z4:Hid _:=Rw.put F_y4.out hP (fun r hr=>by simp only[List.mem_cons,nY,or_false]at hr;rcases hr with rfl|rfl<;>(simp only;omega))
  go_wp2_with fail
  have HQ:Hid _:=(F_z4.out.row _ (mC _ mQ)).2.2
  have HZ:Hid _:=(F_z4.out.row _ (mC _ (mC _ mQ))).2.2
  rw[rdS]
  go_wp2_with(first
   | refine wpLr rfl 187 _ rfl w.heap.size rfl _ (Iv .u64 [r0,r1,r2,r3,r4]) _ _ HQ.out underlying187 rfl lT ?_
   | refine wpPr rfl 187 _ _ rfl (w.heap.size+1) (Iv .u64 [r0,r1,r2,r3,r4]) rfl rfl _ _ HZ.out lT rfl (aG _ _) (fun W9 hP=>sH ?_))
  refine aH ?_
  have B9:=hP.below _ _ F_z4.out.bel (by omega)
  have G9:=hP.here
  go_wp2
  exact bodyPost_ret (v:=.agg (Iv .u64 [r0,r1,r2,r3,r4])) (results_cell_row rfl _ _ _ _ (Iv .u64 [r0,r1,r2,r3,r4]) _ _ rfl G9 underlying187 rfl lT) rfl ⟨rfl,B9⟩
theorem eE (g off n cap:Nat) (te:TypeId) (l:LI) (x:Int) (w:World)
 (hg:w.heap[g]? =some (.cells (Iv .u8 l) te)) (hl:off+n≤l.length) (hn:n≤8) (hx:0≤x):
 Calls prog 116 #[.slice (some ⟨g,off,none⟩) n cap,.int .u64 x] w fun e w'=>
  e=.returned (.tuple #[])∧w'=w.setRow g (Iv .u8 (pF9 l off (fun i=>x / 256^i%256) n)):=by
 go_enter func116,ntmps116
 go_wp2
 go_loopw [7] (fun i wr=>∃k:Nat,k≤n∧i=.int .i64 k∧wr=w.setRow g (Iv .u8 (pF9 l off (fun i=>x / 256^i%256) k))) (fun i _=>n - (intOf i).toNat)
 case atStart=>
  refine⟨0,Nat.zero_le _,rfl,?_⟩
  rw[cR,iE w g _ _ _ hg]
 case round=>
  obtain⟨k,hk,rfl,rfl⟩:=hrel
  by_cases hlt:k<n
  ·have ho:∃v,(w.setRow g (Iv .u8 (pF9 l off (fun i=>x / 256^i%256) k))).cell? ⟨g,off+k,none⟩=some v:=by
    rw[eS _ _ _ _ _ _ _ hg]
    exact nD _ _ _ (by rw[aS _ _ _ _ (by omega)];omega)
   obtain⟨v,hv⟩:=ho
   have hf:(w.setRow g (Iv .u8 (pF9 l off (fun i=>x / 256^i%256) k))).frozen? ⟨g,off+k,none⟩=false:=by rw[iJ];exact frozen_of_row _ _ _ _ _ hg
   go_wp2
   go_roundw
   case rel=>exact⟨k+1,by omega,by go_num,by rw[aK,bZ,ajR,cP l off (fun i=>x / 256^i%256) k (by omega)]⟩
   case measure=>simp[intOf];omega
  ·obtain rfl:k=n:=by omega
   go_wp2
   go_end0
   exact⟨rfl,rfl⟩
def aA (n:Nat):LI:=rQ n 0
def WL (r:Int) (z:LI):List Value:=Value.int .u32 r::z.map (Value.int .u8)
theorem kT (r:Int) (z:LI):(WL r z).length=z.length+1:=by simp[WL]
theorem nF (r:Int) (z:LI):(WL r z).toArray.size=z.length+1:=by simp[WL]
theorem WI (r:Int) (z:LI):(WL r z).toArray[0]? =some (.int .u32 r):=by simp[WL]
theorem WH (r:Int) (z:LI) (i:Nat) (hi:i<z.length):(WL r z).toArray[i+1]? =some (.int .u8 (z.getD i 0)):=by simp[WL,hi]
theorem uI (r:Int) (z:LI):(WL r z).toArray.all (·.oneCell')=true:=by simp[WL,Value.oneCell']
theorem agK (r:Int) (z:LI) (o n:Nat):((WL r z).drop (o+1)).take n=((z.drop o).take n).map (Value.int .u8):=by simp[WL,List.map_drop,List.map_take]
def aP (z:LI) (o n:Nat):LI:=(z.drop o).take n
theorem aZ (z:LI) (o n N:Nat) (hz:z.length=N) (h:o+n≤N):(aP z o n).length=n:=by simp[aP,hz];omega
theorem ad7 (r:Int) (z:LI) (o n:Nat):((WL r z).drop (o+1)).take n=(aP z o n).map (Value.int .u8):=agK r z o n
def bV (z:LI) (N k:Nat):LI:=z.take k++rQ (N - k) 0
theorem iB (z:LI) (N k:Nat) (hz:z.length=N) (hk:k≤N):(bV z N k).length=N:=by simp[bV,hz];omega
theorem tI (z:LI) (N:Nat) (hz:z.length=N):bV z N N=z:=by simp[bV,←hz]
theorem ZE (z:LI) (N o n:Nat) (hz:z.length=N) (h:o+n≤N):(bV z N o).take o++(z.drop o).take n++(bV z N o).drop (o+n)=bV z N (o+n):=by
 have e1:(bV z N o).take o=z.take o:=by
  unfold bV
  rw[List.take_append_of_le_length (by simp;omega),List.take_take,Nat.min_self]
 have e2:(bV z N o).drop (o+n)=rQ (N - (o+n)) 0:=by
  unfold bV
  rw[List.drop_append,List.drop_eq_nil_of_le (by simp;omega),nA,List.drop_replicate]
  congr 1
  simp
  omega
 rw[e1,e2,←List.take_add]
 rfl
theorem agL (r:Int) (z:LI) (N o n:Nat) (hz:z.length=N) (h:o+n≤N):
 (WL r (bV z N o)).take (o+1)++((z.drop o).take n).map (Value.int .u8)++(WL r (bV z N o)).drop (o+1+(((z.drop o).take n).map (Value.int .u8)).length)=WL r (bV z N (o+n)):=by
 have hn:(((z.drop o).take n).map (Value.int .u8)).length=n:=by simp;omega
 rw[hn,←ZE z N o n hz h]
 simp only[WL,tU,List.map_append,List.map_take,List.map_drop]
 rw[show o+1+n=(o+n)+1 by omega,dJ]
 simp
theorem TE (r:Int) (z:LI) (N o n:Nat) (hz:z.length=N) (h:o+n≤N):
 (WL r (bV z N o)).take (o+1)++(aP z o n).map (Value.int .u8)++(WL r (bV z N o)).drop (o+1+((aP z o n).map (Value.int .u8)).length)=WL r (bV z N (o+n)):=agL r z N o n hz h
theorem abK (r:Int) (z:LI) (N:Nat):WL r (rQ N 0)=WL r (bV z N 0):=by simp[bV]
theorem oI {w:World} {g:Nat} {r:Int} {z:LI} {t:TypeId} {fr:Nat×Nat} (hg:w.heap[g]? =some (.cells (WL r z).toArray t fr)) (o n:Nat):w.rangeAt g (o+1) ((aP z o n).map (Value.int .u8)):=by
 rw[←ad7 r z o n]
 exact gZ hg (o+1) n
theorem JF (l:LI):(l.map (Value.int .u8)).all (·.oneCell')=true:=by simp[Value.oneCell']
end Go.Proofs.YtmjccemdldidaaaGreatDoor
