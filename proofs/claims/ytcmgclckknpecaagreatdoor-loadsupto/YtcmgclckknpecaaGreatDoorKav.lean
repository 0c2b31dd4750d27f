import Derived.Test.YtcmgclckknpecaaGreatDoorKaa
import Derived.Test.YtcmgclckknpecaaGreatDoorKah
import Derived.Test.YtcmgclckknpecaaGreatDoorKar
import Derived.Deep.RegionHeld3
import Derived.Test.YtcmgclckknpecaaGreatDoorKas
namespace Go.Proofs.YtcmgclckknpecaaGreatDoor
open Go.RowKit
theorem isBlank_any (c:Nat) (w:World):Calls Tryz.prog 303 #[.int .i64 (c:Int)] w fun e w'=>e=.returned (.bool (Pl.isBlk c))∧w'=w:=by
 by_cases h1:c=9
 ·subst h1
  go_enter Tryz.func303,Tryz.ntmps303
  go_wp2
  go_ret
  exact ⟨rfl,rfl⟩
 ·by_cases h2:c=10
  ·subst h2
   go_enter Tryz.func303,Tryz.ntmps303
   go_wp2
   go_ret
   exact ⟨rfl,rfl⟩
  ·have h1':¬ (c:Int)=9:=by omega
   have h2':¬ (c:Int)=10:=by omega
   go_enter Tryz.func303,Tryz.ntmps303
   go_wp2
   go_ret
   refine ⟨ret_bool ?_,rfl⟩
   unfold Pl.isBlk
   by_cases h3:c=32
   ·subst h3;decide
   ·have h3':¬ (c:Int)=32:=by omega
    simp [h1,h2,h3,h1',h2',h3']
def Pl.ssz (f:Nat→Nat) (n i:Nat):Nat:=Pl.run (fun k=>!Pl.isBlk (f k)) n n i - i
theorem Pl.ssz_le (f:Nat→Nat) (n i:Nat) (h:i<n):i+Pl.ssz f n i≤n:=by
 have a:=Pl.run_le (fun k=>!Pl.isBlk (f k)) n n i (by omega)
 have b:=Pl.run_ge (fun k=>!Pl.isBlk (f k)) n n i
 unfold Pl.ssz;omega
def Pl.lsz (_f:Nat→Nat) (n i:Nat):Nat:=n - i
set_option maxHeartbeats 1000000 in
theorem solidSize_any (g o cap:Nat) (xs:List (Nat × Nat × Nat)) (i:Nat) (w:World) (hC:Cr g o xs w) (hi:i<xs.length) (hl:xs.length≤268435456) :
  Calls Tryz.prog 201 #[.slice (some ⟨g,o,none⟩) xs.length cap,.int .i64 (i:Int)] w fun e w'=>e=.returned (.int .i64 ((Pl.ssz (Pl.cdx xs) xs.length i:Nat):Int))∧w'=w:=by
 obtain ⟨R,hR⟩:∃ R,Pl.run (fun k=>!Pl.isBlk (Pl.cdx xs k)) xs.length xs.length i=R:=⟨_,rfl⟩
 have hRg:=Pl.run_ge (fun k=>!Pl.isBlk (Pl.cdx xs k)) xs.length xs.length i
 rw [hR] at hRg
 have HW:Hid (Pl.ssz (Pl.cdx xs) xs.length i=R - i):=by show _=_;rw [Pl.ssz,hR]
 have HR:Hid (Pl.run (fun k=>!Pl.isBlk (Pl.cdx xs k)) xs.length xs.length i=R):=hR
 clear hR
 go_enter Tryz.func201,Tryz.ntmps201
 go_wp2_with fail
 go_loopw [5] (fun t wr=>∃ k m:Nat,t=.int .i64 (k:Int)∧k≤xs.length∧xs.length≤k+m∧Hid (Pl.run (fun k=>!Pl.isBlk (Pl.cdx xs k)) xs.length m k=R)∧wr=w) (fun t _=>xs.length - (intOf t).toNat)
 case atStart=>exact ⟨i,xs.length,rfl,by omega,by omega,HR,rfl⟩
 case round =>
  obtain ⟨k,m,rfl,hk,hkm,HK,rfl⟩:=hrel
  by_cases hkl:k<xs.length
  ·have hkI:(k:Int)<(xs.length:Int):=by omega
   have ck:=hC.code hkl
   obtain ⟨d,hd⟩:∃ d,Pl.cdx xs k=d:=⟨_,rfl⟩
   rw [hd] at ck
   cases h2:Pl.isBlk d with
   | false =>
    obtain ⟨m',hm',hr'⟩:=Pl.run_yes hkl (by rw [hd,h2];rfl) hkm HK.out
    have HK2:Hid (Pl.run (fun k=>!Pl.isBlk (Pl.cdx xs k)) xs.length m' (k+1)=R):=hr'
    clear hr' hd HK
    go_wp2_with (go_at_call 303;refine (isBlank_any _ _).mono ?_;rintro e w' ⟨rfl,rfl⟩)
    exact ⟨⟨k+1,m',by go_num,by omega,by omega,HK2,trivial⟩,by simp [intOf];omega⟩
   | true =>
    have hx:=Pl.run_no (fun h=>by have:=h.2;rw [hd,h2] at this;cases this) HK.out
    clear hd HK
    go_wp2_with (go_at_call 303;refine (isBlank_any _ _).mono ?_;rintro e w' ⟨rfl,rfl⟩)
    go_ret
    subst hx
    exact ⟨ret_sub HW.out (by omega),rfl⟩
  ·have hx:=Pl.run_no (fun h=>hkl h.1) HK.out
   have hkI:¬ (k:Int)<(xs.length:Int):=by omega
   clear HK
   go_wp2_with fail
   go_ret
   subst hx
   exact ⟨ret_sub HW.out (by omega),rfl⟩
theorem wholeSize_any (g o cap:Nat) (xs:List (Nat × Nat × Nat)) (i:Nat) (w:World) (hi:i<xs.length) (hl:xs.length≤268435456) :
  Calls Tryz.prog 202 #[.slice (some ⟨g,o,none⟩) xs.length cap,.int .i64 (i:Int)] w fun e w'=>e=.returned (.int .i64 ((Pl.lsz (Pl.cdx xs) xs.length i:Nat):Int))∧w'=w:=by
 go_enter Tryz.func202,Tryz.ntmps202
 go_wp2
 go_ret
 exact ⟨ret_sub rfl (by omega),rfl⟩
end Go.Proofs.YtcmgclckknpecaaGreatDoor
namespace Go.Proofs.YtcmgclckknpecaaGreatDoor
open Go.RowKit
def Pl.tgz (f:Nat→Nat) (n:Nat):Nat:=if f 0=60 then (if Pl.run (fun k=>!decide (f k=62)) n n 0<n then Pl.run (fun k=>!decide (f k=62)) n n 0+1 else 0) else 0
theorem Pl.tgz_le (f:Nat→Nat) (n:Nat):Pl.tgz f n≤n:=by
 unfold Pl.tgz
 split
 ·split <;> omega
 ·omega
set_option maxHeartbeats 1000000 in
theorem tagSize_any (g o cap:Nat) (xs:List (Nat × Nat × Nat)) (w:World) (hC:Cr g o xs w) (hg:g<w.heap.size) (h0:0<xs.length) (hl:xs.length≤268435456) :
  Calls Tryz.prog 292 #[.slice (some ⟨g,o,none⟩) xs.length cap] w fun e w'=>e=.returned (.int .i64 ((Pl.tgz (Pl.cdx xs) xs.length:Nat):Int))∧Below w.heap.size w w':=by
 have c0:=hC.code h0
 rw [Nat.zero_mul,Nat.add_zero] at c0
 have h0I:(0:Int)<(xs.length:Int):=by omega
 obtain ⟨d0,hd0⟩:∃ d,Pl.cdx xs 0=d:=⟨_,rfl⟩
 rw [hd0] at c0
 by_cases h60:d0=60
 ·subst h60
  obtain ⟨R,hR⟩:∃ R,Pl.run (fun k=>!decide (Pl.cdx xs k=62)) xs.length xs.length 0=R:=⟨_,rfl⟩
  have HT:Hid (Pl.tgz (Pl.cdx xs) xs.length=if R<xs.length then R+1 else 0):=by show _=_;rw [Pl.tgz,if_pos hd0,hR]
  have HR:Hid (Pl.run (fun k=>!decide (Pl.cdx xs k=62)) xs.length xs.length 0=R):=hR
  clear hR hd0
  go_enter Tryz.func292,Tryz.ntmps292
  go_wp2_with fail
  go_loopw [12] (fun t wr=>∃ k m:Nat,t=.int .i64 (k:Int)∧k≤xs.length∧xs.length≤k+m∧Hid (Pl.run (fun k=>!decide (Pl.cdx xs k=62)) xs.length m k=R)∧Below w.heap.size w wr) (fun t _=>xs.length - (intOf t).toNat)
  case atStart=>exact ⟨0,xs.length,rfl,by omega,by omega,HR,Below.refl _ _⟩
  case round =>
   obtain ⟨k,m,rfl,hk,hkm,HK,hB⟩:=hrel
   by_cases hkl:k<xs.length
   ·have hkI:(k:Int)<(xs.length:Int):=by omega
    obtain ⟨k0,k1,k2⟩:=hC.c k hkl
    rw [← Pl.cdx_eq hkl] at k0
    obtain ⟨d,hd⟩:∃ d,Pl.cdx xs k=d:=⟨_,rfl⟩
    rw [hd] at k0
    have b0:=(hB.cell (p:=⟨g,o+k*3,none⟩) hg).trans k0
    have b1:=(hB.cell (p:=⟨g,o+k*3+1,none⟩) hg).trans k1
    have b2:=(hB.cell (p:=⟨g,o+k*3+2,none⟩) hg).trans k2
    clear k0 k1 k2 c0
    have hsz:=hB.size
    by_cases h62:d=62
    ·have hx:=Pl.run_no (fun h=>by have:=h.2;rw [hd,h62] at this;simp at this) HK.out
     subst h62
     clear hd HK
     go_wp2_with fail
     go_ret
     subst hx
     have e1:(if R<xs.length then R+1 else 0)=R+1:=if_pos hkl
     refine ⟨?_,hB.alloc hsz _⟩
     rw [HT.out,e1]
     go_num
    ·obtain ⟨m',hm',hr'⟩:=Pl.run_yes hkl (by rw [hd];simp [h62]) hkm HK.out
     have HK2:Hid (Pl.run (fun k=>!decide (Pl.cdx xs k=62)) xs.length m' (k+1)=R):=hr'
     have h62I:¬ (d:Int)=62:=by omega
     clear hr' hd HK
     go_wp2_with fail
     exact ⟨⟨k+1,m',by go_num,by omega,by omega,HK2,hB.alloc hsz _⟩,by simp [intOf];omega⟩
   ·have hx:=Pl.run_no (fun h=>hkl h.1) HK.out
    have hkI:¬ (k:Int)<(xs.length:Int):=by omega
    clear HK
    go_wp2_with fail
    go_ret
    subst hx
    have e1:(if R<xs.length then R+1 else 0)=0:=if_neg hkl
    refine ⟨?_,hB⟩
    rw [HT.out,e1]
    rfl
 ·have h60I:¬ (d0:Int)=60:=by omega
  have HT:Hid (Pl.tgz (Pl.cdx xs) xs.length=0):=by show _=_;rw [Pl.tgz,hd0,if_neg h60]
  clear hd0
  go_enter Tryz.func292,Tryz.ntmps292
  go_wp2_with fail
  go_ret
  refine ⟨?_,Below.refl _ _⟩
  rw [HT.out]
  rfl
end Go.Proofs.YtcmgclckknpecaaGreatDoor
namespace Go.Proofs.YtcmgclckknpecaaGreatDoor
open Go.RowKit
theorem info38:(Tryz.prog.info? 38).map (fun i=>(i.zero,i.size,i.bytes))=some (some (.agg #[.int .i64 0,.int .i64 0,.int .i64 0]),3,24):=by kernel_rfl
theorem Cr.drop {g o:Nat} {xs:List (Nat × Nat × Nat)} {w:World} (h:Cr g o xs w) (i:Nat):Cr g (o+i*3) (xs.drop i) w :=
 ⟨fun j hj=>by
  have hj':i+j<xs.length:=by simp at hj;omega
  have he:(xs.drop i)[j]=xs[i+j]:=by simp
  rw [he,show o+i*3+j*3=o+(i+j)*3 by omega]
  exact h.c (i+j) hj'⟩
def Pl.tgAt (xs:List (Nat × Nat × Nat)) (i:Nat):Nat:=Pl.tgz (Pl.cdx (xs.drop i)) (xs.drop i).length
theorem Pl.tgAt_le (xs:List (Nat × Nat × Nat)) (i:Nat) (h:i≤xs.length):i+Pl.tgAt xs i≤xs.length:=by
 have:=Pl.tgz_le (Pl.cdx (xs.drop i)) (xs.drop i).length
 unfold Pl.tgAt
 rw [List.length_drop] at this ⊢
 omega
def Pl.tgs (xs:List (Nat × Nat × Nat)):Nat→Nat→List (Nat × Nat × Nat)
 | 0,_=>[]
 | m+1,i=>if h:i<xs.length then (if Pl.tgAt xs i=0 then xs[i] :: Pl.tgs xs m (i+1) else (32,Pl.frx xs i,Pl.tox xs (i+Pl.tgAt xs i - 1)) :: Pl.tgs xs m (i+Pl.tgAt xs i)) else []
theorem Pl.tgs_pass {xs:List (Nat × Nat × Nat)} {m i:Nat} (h:i<xs.length) (hm:xs.length≤i+m) (h0:Pl.tgAt xs i=0):∃ m',xs.length≤i+1+m'∧Pl.tgs xs m i=xs[i] :: Pl.tgs xs m' (i+1):=by
 obtain ⟨m',rfl⟩:∃ m',m=m'+1:=⟨m - 1,by omega⟩
 exact ⟨m',by omega,by rw [Pl.tgs,dif_pos h,if_pos h0]⟩
theorem Pl.tgs_tag {xs:List (Nat × Nat × Nat)} {m i:Nat} (h:i<xs.length) (hm:xs.length≤i+m) (h0:Pl.tgAt xs i≠0):∃ m',xs.length≤i+Pl.tgAt xs i+m'∧Pl.tgs xs m i=(32,Pl.frx xs i,Pl.tox xs (i+Pl.tgAt xs i - 1)) :: Pl.tgs xs m' (i+Pl.tgAt xs i):=by
 obtain ⟨m',rfl⟩:∃ m',m=m'+1:=⟨m - 1,by omega⟩
 exact ⟨m',by omega,by rw [Pl.tgs,dif_pos h,if_neg h0]⟩
theorem Pl.tgs_nil {xs:List (Nat × Nat × Nat)} {m i:Nat} (h:¬ i<xs.length):Pl.tgs xs m i=[]:=by
 cases m with
 | zero=>rfl
 | succ m=>rw [Pl.tgs,dif_neg h]
theorem Pl.tgs_length (xs:List (Nat × Nat × Nat)):∀ m i,i≤xs.length→(Pl.tgs xs m i).length≤xs.length - i
 | 0,_,_=>Nat.zero_le _
 | m+1,i,h=>by
  rw [Pl.tgs]
  split
  ·split
   ·have:=Pl.tgs_length xs m (i+1) (by omega);simp only [List.length_cons];omega
   ·have h1:=Pl.tgAt_le xs i h
    have:=Pl.tgs_length xs m (i+Pl.tgAt xs i) h1
    simp only [List.length_cons];omega
  ·exact Nat.zero_le _
set_option maxRecDepth 100000 in
set_option maxHeartbeats 2000000 in
theorem blankTags_any (g cap:Nat) (xs:List (Nat × Nat × Nat)) (a:Option Addr) (w:World) (hC:Cr g 0 xs w) (ha:0<xs.length→a=some ⟨g,0,none⟩) (hg:0<xs.length→g<w.heap.size) (hcap:xs.length≤cap) (hl:xs.length≤268435456) :
  Calls Tryz.prog 195 #[.slice a xs.length cap] w fun e w'=>∃ v,e=.returned v∧w'.ownsRow w.heap.size 38 3 v (Pl.tgs xs xs.length 0).length ((Pl.tgs xs xs.length 0).flatMap enc)∧Below w.heap.size w w':=by
 obtain ⟨i0,hi,hz0,hz1,hz2⟩:=info_parts info38
 obtain ⟨ys,hys⟩:∃ ys,Pl.tgs xs xs.length 0=ys:=⟨_,rfl⟩
 rw [hys]
 have hlen:ys.length≤xs.length:=by have:=Pl.tgs_length xs xs.length 0 (by omega);rw [hys] at this;omega
 have HYS:Hid (Pl.tgs xs xs.length 0=ys):=hys
 clear hys
 go_enter Tryz.func195,Tryz.ntmps195
 go_wp2
 go_loopw [3,4] (fun l i wr=>∃ (k m:Nat) (pre:List (Nat × Nat × Nat)),i=.int .i64 (k:Int)∧k≤xs.length∧xs.length≤k+m∧Hid (pre++Pl.tgs xs m k=ys) ∧
  wr.ownsRow w.heap.size 38 3 l pre.length (pre.flatMap enc)∧Below w.heap.size w wr) (fun _ i _=>xs.length - (intOf i).toNat)
 case atStart=>exact ⟨0,xs.length,[],rfl,by omega,by omega,HYS,World.ownsRow_nil _ _ _ _,Below.refl _ _⟩
 case round =>
  obtain ⟨k,m,pre,rfl,hk,hkm,HX,hrow,hB⟩:=hrel
  by_cases hlt:k<xs.length
  ·obtain rfl:=ha (by omega)
   have hg':=hg (by omega)
   have hltI:(k:Int)<(xs.length:Int):=by omega
   have hkI:(k:Int)≤(xs.length:Int):=by omega
   have hcI:(xs.length:Int)≤(cap:Int):=by omega
   have hCk:=hC.drop k
   rw [Nat.zero_add] at hCk
   have hdl:(xs.drop k).length=xs.length - k:=List.length_drop
   have hts:=fun W (hW:Below w.heap.size w W)=>tagSize_any g (k*3) (cap - k) (xs.drop k) W (hCk.below hW fun _=>hg') (by have:=hW.size;omega) (by omega) (by omega)
   obtain ⟨z,hz⟩:∃ z,Pl.tgAt xs k=z:=⟨_,rfl⟩
   have hzl:=Pl.tgAt_le xs k hk
   rw [hz] at hzl
   rw [show Pl.tgz (Pl.cdx (xs.drop k)) (xs.drop k).length=z from hz,hdl] at hts
   have HTS:Hid (∀ W,Below w.heap.size w W→Calls Tryz.prog 292 #[.slice (some ⟨g,k*3,none⟩) (xs.length - k) (cap - k)] W fun e w'=>e=.returned (.int .i64 ((z:Nat):Int))∧Below W.heap.size W w'):=hts
   clear hts hCk hdl
   go_wp2_with fail
   refine (HTS.out _ hB).mono ?_
   rintro e w2 ⟨rfl,h2⟩
   have hB2:Below w.heap.size w w2:=hB.trans (h2.mono hB.size)
   have hrow2:=ownsRow_below hrow h2
   have hs2:=h2.size
   have hs1:=hB.size
   clear HTS
   by_cases hz0':z=0
   ·subst hz0'
    obtain ⟨m',hm',hcs⟩:=Pl.tgs_pass hlt hkm hz
    obtain ⟨⟨c,f,t⟩,hx⟩:∃ x,xs[k]=x:=⟨_,rfl⟩
    obtain ⟨k0,k1,k2⟩:=(hC.below hB2 fun _=>hg').c k hlt
    rw [hx] at hcs k0 k1 k2
    rw [Nat.zero_add] at k0 k1 k2
    simp only at k0 k1 k2
    have HX2:Hid ((pre++[(c,f,t)])++Pl.tgs xs m' (k+1)=ys):=by
     have:=HX.out;rw [hcs] at this;show _=_;rw [← this];simp
    have hpl:pre.length<xs.length:=by
     have:=congrArg List.length HX2.out;simp at this;omega
    have HNB:Hid ((w2.alloc (.cells #[.int .i64 (c:Int),.int .i64 (f:Int),.int .i64 (t:Int)] 38)).heap[w2.heap.size]?=some (.cells #[.int .i64 (c:Int),.int .i64 (f:Int),.int .i64 (t:Int)] 38 (0,0))):=heap_alloc_new w2 _
    clear hcs hx hz HX
    go_wp2_with (at_builtin;go_must (refine wpList_append_lies _ (by rfl) _ _ 34 (by rfl) w.heap.size 38 i0 (.agg #[.int .i64 0,.int .i64 0,.int .i64 0]) 3 24 Tryz.underlying34 hi hz0 hz1 hz2 rfl (by decide) _ pre.length (pre.flatMap enc) (by rfl) (hrow2.alloc _) ⟨w2.heap.size,0,none⟩ 1 1 (enc (c,f,t)) (by rfl) rfl (World.news_of_block (HNB.out)) (enc_one _) (by decide) (by unfold maxLen;omega) (by omega) (by simp;omega) (w2.heap.size+1) (by simp) ?_);intro gn capn w3 hown1 hgrow hat hlt1;have hB3:Below w.heap.size w w3:=Below.grown (hB2.alloc (by omega) _) hgrow (by simp;omega) fun j ej=>(ownBlock_lt hrow ej).2)
    refine ⟨⟨k+1,m',pre++[(c,f,t)],by go_num,by omega,hm',HX2,?_,hB3⟩,by simp [intOf];omega⟩
    rw [enc_snoc,List.length_append]
    exact hown1
   ·obtain ⟨m',hm',hcs⟩:=Pl.tgs_tag hlt hkm (by rw [hz];exact hz0')
    rw [hz] at hm' hcs
    obtain ⟨F,hF⟩:∃ F,Pl.frx xs k=F:=⟨_,rfl⟩
    obtain ⟨T,hT⟩:∃ T,Pl.tox xs (k+z - 1)=T:=⟨_,rfl⟩
    rw [hF,hT] at hcs
    have hCw:=hC.below hB2 fun _=>hg'
    have k1:=(hCw.c k hlt).2.1
    have k2:=(hCw.c (k+z - 1) (by omega)).2.2
    rw [show (xs[k]).2.1=F by rw [← hF];simp [Pl.frx,hlt],Nat.zero_add] at k1
    rw [show (xs[k+z - 1]'(by omega)).2.2=T by rw [← hT];simp [Pl.tox,show k+z - 1<xs.length by omega],Nat.zero_add] at k2
    have HX2:Hid ((pre++[(32,F,T)])++Pl.tgs xs m' (k+z)=ys):=by
     have:=HX.out;rw [hcs] at this;show _=_;rw [← this];simp
    have hpl:pre.length<xs.length:=by
     have:=congrArg List.length HX2.out;simp at this;omega
    have HNB:Hid (∀ W,(World.alloc W (.cells #[.int .i64 32,.int .i64 (F:Int),.int .i64 (T:Int)] 38)).heap[W.heap.size]?=some (.cells #[.int .i64 32,.int .i64 (F:Int),.int .i64 (T:Int)] 38 (0,0))):=fun W=>heap_alloc_new W _
    have hzI:¬ (z:Int)=0:=by omega
    obtain ⟨q,hq⟩:∃ q,k+z - 1=q:=⟨_,rfl⟩
    have hkz:(k:Int)+(z:Int)≤268435456:=by omega
    have hw1:IntKind.i64.wrap ((k:Int)+(z:Int))=(k:Int)+(z:Int):=by rw [IntKind.wrap_i64];omega
    have hw2:IntKind.i64.wrap ((k:Int)+(z:Int) - 1)=(k:Int)+(z:Int) - 1:=by rw [IntKind.wrap_i64];omega
    have h3:(k:Int)+(z:Int) - 1<(xs.length:Int):=by omega
    have h4:(0:Int)≤(k:Int)+(z:Int) - 1:=by omega
    have h5:((k:Int)+(z:Int) - 1).toNat=q:=by omega
    have h6:(k:Int)+(z:Int)≤(xs.length:Int):=by omega
    have h7:(1:Int)≤(k:Int)+(z:Int):=by omega
    have h8:(0:Int)<(k:Int)+(z:Int):=by omega
    have h9:(k:Int)+(z:Int)<(xs.length:Int)+1:=by omega
    have h10:¬ (k:Int)+(z:Int)<1:=by omega
    rw [hq] at k2
    clear hcs hz HX hF hT hCw
    go_wp2_with fail
    go_region_held3 (fun w'=>w'.cell? ⟨g,k*3+1,none⟩=some (.int .i64 (F:Int))∧w'.cell? ⟨g,q*3+2,none⟩=some (.int .i64 (T:Int))) (first | go_keep | (refine ⟨?_,?_⟩;exact (hB3.cell (p:=⟨g,k*3+1,none⟩) hg').trans ((hB2.cell (p:=⟨g,k*3+1,none⟩) hg').symm.trans k1);exact (hB3.cell (p:=⟨g,q*3+2,none⟩) hg').trans ((hB2.cell (p:=⟨g,q*3+2,none⟩) hg').symm.trans k2))) ((refine step_append_lies _ (by rfl) _ _ 34 (by rfl) w.heap.size 38 i0 (.agg #[.int .i64 0,.int .i64 0,.int .i64 0]) 3 24 Tryz.underlying34 hi hz0 hz1 hz2 rfl (by decide) _ pre.length (pre.flatMap enc) (by rfl) (hrow2.drew.alloc _) ⟨w2.heap.size,0,none⟩ 1 1 (enc (32,F,T)) (by rfl) rfl (World.news_of_block (HNB.out w2.drew)) (enc_one _) (by decide) (by unfold maxLen;omega) (by omega) (by simp;omega) (w2.heap.size+1) (by simp) ?_;intro gn capn w3 hown1 hgrow hat hlt1;have hB3:Below w.heap.size w w3:=Below.grown (hB2.drew.alloc (by simp;omega) _) hgrow (by simp;omega) fun j ej=>(ownBlock_lt hrow ej).2))
    go_wp2_with fail
    refine ⟨⟨k+z,m',pre++[(32,F,T)],by go_num,by omega,hm',HX2,?_,hB3⟩,by simp [intOf];omega⟩
    rw [enc_snoc,List.length_append]
    exact hown1
  ·have hx:pre=ys:=by have:=HX.out;rw [Pl.tgs_nil hlt] at this;simpa using this
   have hltI:¬ (k:Int)<(xs.length:Int):=by omega
   subst hx
   go_wp2
   go_ret
   exact ⟨_,rfl,hrow,hB⟩
end Go.Proofs.YtcmgclckknpecaaGreatDoor
namespace Go.Proofs.YtcmgclckknpecaaGreatDoor
open Go.RowKit Go.Shelf
theorem row_ne_iter {W:World} {base:Nat} {e:TypeId} {size:Nat} {v:Value} {n:Nat} {xs:List Value} {k:Nat} {s:ByteArray} {pos:Nat} (hr:W.ownsRow base e size v n xs) (hk:W.heap[k]?=some (.stringIter s pos)):v.ownBlock≠some k:=by
 rcases hr.2 with ⟨rfl,_⟩ | ⟨g,cap,cur,rfl,_,hgb,_⟩
 ·simp [Value.ownBlock]
 ·intro e'
  obtain rfl:g=k:=by simpa [Value.ownBlock] using e'
  rw [hk] at hgb
  cases hgb
theorem own_iter {W:World} {base:Nat} {e:TypeId} {size:Nat} {v:Value} {n:Nat} {xs:List Value} {k:Nat} {s:ByteArray} {pos:Nat} (hr:W.ownsRow base e size v n xs) (hk:W.heap[k]?=some (.stringIter s pos)) (pos':Nat):(W.iterAt k s pos').ownsRow base e size v n xs:=by
 have hne:=row_ne_iter hr hk
 refine ⟨hr.1,?_⟩
 rcases hr.2 with h | ⟨g,cap,cur,rfl,hb,hgb,r⟩
 ·exact .inl h
 ·exact .inr ⟨g,cap,cur,rfl,hb,(Lib.iterAt_other W k g s pos' (fun e'=>hne (by simp [Value.ownBlock,e']))).trans hgb,r⟩
def Pl.rns (s:ByteArray):Nat→Nat→List Nat
 | 0,_=>[]
 | m+1,pos=>if pos<s.size then (Utf8.decode s pos).1 :: Pl.rns s m (pos+(Utf8.decode s pos).2) else []
theorem Pl.rns_end (s:ByteArray) (m pos:Nat) (h:¬ pos<s.size):Pl.rns s m pos=[]:=by
 cases m with
 | zero=>rfl
 | succ f=>simp [Pl.rns,h]
theorem Pl.rns_length (s:ByteArray):∀ m pos,(Pl.rns s m pos).length≤s.size - pos
 | 0,_=>Nat.zero_le _
 | m+1,pos=>by
  rw [Pl.rns]
  split
  ·rename_i h
   have:=Pl.rns_length s m (pos+(Utf8.decode s pos).2)
   have:=width_pos s pos h
   simp only [List.length_cons];omega
  ·exact Nat.zero_le _
def Pl.lts (s:ByteArray) (F T:Nat):List (Nat × Nat × Nat):=(Pl.rns s s.size 0).map fun c=>(c,F,T)
set_option maxRecDepth 100000 in
set_option maxHeartbeats 2000000 in
theorem appendWord_any (B:Nat) (l:Value) (pre:List (Nat × Nat × Nat)) (s:ByteArray) (hs:s.size≤8) (F T:Nat) (w:World) (hBw:B≤w.heap.size) (hl:pre.length≤2684354560) (hrow0:w.ownsRow B 38 3 l pre.length (pre.flatMap enc)) :
  Calls Tryz.prog 293 #[l,.string s,.int .i64 (F:Int),.int .i64 (T:Int)] w fun e w'=>∃ v,e=.returned v∧w'.ownsRow B 38 3 v (pre++Pl.lts s F T).length ((pre++Pl.lts s F T).flatMap enc)∧Below B w w'∧w.grownBy w' l.ownBlock:=by
 obtain ⟨i0,hi,hz0,hz1,hz2⟩:=info_parts info38
 go_enter Tryz.func293,Tryz.ntmps293
 go_wp2
 go_loopw [0] (fun ll wr=>∃ (pos fuel:Nat) (acc:List Nat),wr.heap[w.heap.size]?=some (.stringIter s pos)∧wr.ownsRow B 38 3 ll (pre++acc.map fun c=>(c,F,T)).length ((pre++acc.map fun c=>(c,F,T)).flatMap enc)∧Below B w wr∧w.grownBy wr l.ownBlock∧(ll.ownBlock=l.ownBlock∨∀ x,ll.ownBlock=some x→w.heap.size≤x)∧w.heap.size<wr.heap.size∧Hid (acc++Pl.rns s fuel pos=Pl.rns s s.size 0)∧s.size≤pos+fuel∧acc.length≤pos∧acc.length≤8) (fun _ wr=>s.size - wr.iterPos w.heap.size)
 case atStart =>
  refine ⟨0,s.size,[],World.iter_heap w s 0,?_,(Below.refl _ w).alloc hBw _,World.grownBy_alloc _ _ _,.inl rfl,by simp [World.iter],rfl,by omega,by simp,by simp⟩
  have:=hrow0.alloc (.stringIter s 0)
  simp only [List.map_nil,List.append_nil]
  exact this
 case round =>
  obtain ⟨pos,fuel,acc,hit,hrow,hB,hgr,hcl,hsz,HA,hfu,hal,hal8⟩:=hrel
  by_cases hp:pos<s.size
  ·have hnx:∀ ty,(Instr.next (.pointer (some ⟨w.heap.size,0,none⟩)) true ty).run Tryz.prog wr=_:=fun ty=>Lib.run_next_any_at wr w.heap.size s pos ty hit hp
   have hwd:=width_pos s pos hp
   have hd1:=decode_le s pos
   have hrow2:=own_iter hrow hit (pos+(Utf8.decode s pos).2)
   have hit2:=Lib.iterAt_heap wr w.heap.size s pos (pos+(Utf8.decode s pos).2) hit
   have hB2:=Lib.below_iterAt hB (k:=w.heap.size) hBw s (pos+(Utf8.decode s pos).2)
   have hsz2:(wr.iterAt w.heap.size s (pos+(Utf8.decode s pos).2)).heap.size=wr.heap.size:=Lib.iterAt_size _ _ _ _
   obtain ⟨f,rfl⟩:∃ f,fuel=f+1:=⟨fuel - 1,by omega⟩
   obtain ⟨c,hc⟩:∃ c,(Utf8.decode s pos).1=c:=⟨_,rfl⟩
   obtain ⟨wd,hwdd⟩:∃ wd,(Utf8.decode s pos).2=wd:=⟨_,rfl⟩
   have hA:=HA.out
   simp only [Pl.rns,if_pos hp] at hA
   rw [hc,hwdd] at hnx
   rw [hc] at hd1
   rw [hwdd] at hwd hrow2 hit2 hB2 hsz2
   rw [hc,hwdd] at hA
   have HA2:Hid ((acc++[c])++Pl.rns s f (pos+wd)=Pl.rns s s.size 0):=by show _=_;rw [← hA];simp
   have hac:acc.length<8:=by
    have h1:=congrArg List.length HA2.out
    have h2:=Pl.rns_length s s.size 0
    simp only [List.length_append,List.length_cons,List.length_nil] at h1
    omega
   clear hA HA hc hwdd
   have hgX:∀ j,j<w.heap.size→(wr.iterAt w.heap.size s (pos+wd)).heap[j]?=wr.heap[j]?:=fun j hj=>Lib.iterAt_other _ _ _ _ _ (by omega)
   obtain ⟨X,hX⟩:∃ X,wr.iterAt w.heap.size s (pos+wd)=X:=⟨_,rfl⟩
   rw [hX] at hgX
   rw [hX] at hnx hrow2 hit2 hB2 hsz2
   have HNB:Hid ((X.alloc (.cells #[.int .i64 (c:Int),.int .i64 (F:Int),.int .i64 (T:Int)] 38)).heap[wr.heap.size]?=some (.cells #[.int .i64 (c:Int),.int .i64 (F:Int),.int .i64 (T:Int)] 38 (0,0))):=by rw [← hsz2];exact heap_alloc_new X _
   have hpl:(pre++acc.map fun c=>(c,F,T)).length≤2684354568:=by simp;omega
   obtain ⟨pa,hpa⟩:∃ pa,(pre++acc.map fun c=>(c,F,T))=pa:=⟨_,rfl⟩
   rw [hpa] at hrow2 hpl
   go_wp2_with (at_builtin;go_must (refine wpList_append_lies _ (by rfl) _ _ 34 (by rfl) B 38 i0 (.agg #[.int .i64 0,.int .i64 0,.int .i64 0]) 3 24 Tryz.underlying34 hi hz0 hz1 hz2 rfl (by decide) _ pa.length (pa.flatMap enc) (by rfl) (hrow2.alloc _) ⟨wr.heap.size,0,none⟩ 1 1 (enc (c,F,T)) (by rfl) rfl (World.news_of_block (HNB.out)) (enc_one _) (by decide) (by unfold maxLen;omega) (by omega) (by simp;omega) (wr.heap.size+1) (by simp [hsz2]) ?_);intro gn capn w3 hown1 hgrow hat hlt1)
   have hne:=row_ne_iter hrow2 hit2
   have hit3:w3.heap[w.heap.size]?=some (.stringIter s (pos+wd)):=by
    have h1:(X.alloc (.cells #[.int .i64 (c:Int),.int .i64 (F:Int),.int .i64 (T:Int)] 38)).heap[w.heap.size]?=some (.stringIter s (pos+wd)):=(((Below.refl X.heap.size X).alloc (Nat.le_refl _) _).block w.heap.size (by omega)).trans hit2
    exact (hgrow.block w.heap.size (by simp;omega) (Ne.symm hne)).trans h1
   have hB3:Below B w w3:=Below.grown (hB2.alloc (by omega) _) hgrow (by simp;omega) fun j ej=>(ownBlock_lt hrow2 ej).2
   have hs3:=hgrow.size
   simp only [World.size_alloc] at hs3
   have hgr3:w.grownBy w3 l.ownBlock:=by
    refine ⟨hB3.os,hB3.tape,hB3.output,hB3.size,fun j hj hne2=>?_⟩
    have hne3:some j≠u0.ownBlock:=by
     rcases hcl with h | h
     ·rw [h];exact hne2
     ·intro e';have:=h j e'.symm;omega
    have h1:(X.alloc (.cells #[.int .i64 (c:Int),.int .i64 (F:Int),.int .i64 (T:Int)] 38)).heap[j]?=X.heap[j]?:=((Below.refl X.heap.size X).alloc (Nat.le_refl _) _).block j (by omega)
    exact (hgrow.block j (by simp;omega) hne3).trans (h1.trans ((hgX j hj).trans (hgr.block j hj hne2)))
   have hcl3:(Value.slice (some ⟨gn,0,none⟩) (pa.length+1) capn).ownBlock=l.ownBlock∨∀ x,(Value.slice (some ⟨gn,0,none⟩) (pa.length+1) capn).ownBlock=some x→w.heap.size≤x:=by
    rcases hat with h | h
    ·rcases hcl with h' | h'
     ·left;rw [← h',h];rfl
     ·right;intro x hx
      obtain rfl:gn=x:=by simpa [Value.ownBlock] using hx
      exact h' _ h
    ·right;intro x hx
     obtain rfl:gn=x:=by simpa [Value.ownBlock] using hx
     omega
   go_roundw
   case rel =>
    refine ⟨pos+wd,f,acc++[c],hit3,?_,hB3,hgr3,hcl3,by omega,HA2,by omega,by simp;omega,by simp;omega⟩
    rw [List.map_append,← List.append_assoc,hpa,List.map_cons,List.map_nil,enc_snoc,List.length_append]
    exact hown1
   case measure =>
    simp only [World.iterPos,hit3,hit]
    omega
  ·have hnx:∀ ty,(Instr.next (.pointer (some ⟨w.heap.size,0,none⟩)) true ty).run Tryz.prog wr=_:=fun ty=>Lib.run_next_end_at wr w.heap.size s pos ty hit hp
   have hA:=HA.out
   rw [Pl.rns_end s fuel pos hp,List.append_nil] at hA
   have HA2:Hid (acc=Pl.rns s s.size 0):=hA
   clear hA HA
   go_wp2_with fail
   go_ret
   refine ⟨_,rfl,?_,hB,hgr⟩
   unfold Pl.lts
   rw [← HA2.out]
   exact hrow
end Go.Proofs.YtcmgclckknpecaaGreatDoor
namespace Go.Proofs.YtcmgclckknpecaaGreatDoor
open Go.RowKit Go.Shelf
def Pl.fdC (x:Nat × Nat × Nat):List (Nat × Nat × Nat) :=
 if x.1=64257 then [(102,x.2),(105,x.2)] else if x.1=223 then [(115,x.2),(115,x.2)]
 else if Pl.wit x.1 65281 65374=true then [(x.1 - 65248,x.2)] else if x.1=160 then [(32,x.2)] else [x]
theorem Pl.fdC_le (x:Nat × Nat × Nat):(Pl.fdC x).length≤2:=by
 unfold Pl.fdC
 repeat' split
 all_goals simp
theorem Pl.fd_le (xs:List (Nat × Nat × Nat)):(xs.flatMap Pl.fdC).length≤2*xs.length:=by
 induction xs with
 | nil=>simp
 | cons x r ih=>have:=Pl.fdC_le x;simp only [List.flatMap_cons,List.length_append,List.length_cons];omega
theorem lts_fi (F T:Nat):Pl.lts ⟨#[102,105]⟩ F T=[(102,F,T),(105,F,T)]:=by
 have:Pl.rns ⟨#[102,105]⟩ 2 0=[102,105]:=by decide +kernel
 unfold Pl.lts
 rw [show (⟨#[102,105]⟩:ByteArray).size=2 from rfl,this];rfl
theorem lts_ss (F T:Nat):Pl.lts ⟨#[115,115]⟩ F T=[(115,F,T),(115,F,T)]:=by
 have:Pl.rns ⟨#[115,115]⟩ 2 0=[115,115]:=by decide +kernel
 unfold Pl.lts
 rw [show (⟨#[115,115]⟩:ByteArray).size=2 from rfl,this];rfl
set_option maxRecDepth 100000 in
set_option maxHeartbeats 4000000 in
theorem fold_any (g cap:Nat) (xs:List (Nat × Nat × Nat)) (a:Option Addr) (w:World) (hC:Cr g 0 xs w) (ha:0<xs.length→a=some ⟨g,0,none⟩) (hg:0<xs.length→g<w.heap.size) (hl:xs.length≤268435456) :
  Calls Tryz.prog 196 #[.slice a xs.length cap] w fun e w'=>∃ v,e=.returned v∧w'.ownsRow w.heap.size 38 3 v (xs.flatMap Pl.fdC).length ((xs.flatMap Pl.fdC).flatMap enc)∧Below w.heap.size w w':=by
 obtain ⟨i0,hi,hz0,hz1,hz2⟩:=info_parts info38
 obtain ⟨ys,hys⟩:∃ ys,xs.flatMap Pl.fdC=ys:=⟨_,rfl⟩
 rw [hys]
 have HYS:Hid (xs.flatMap Pl.fdC=ys):=hys
 clear hys
 go_enter Tryz.func196,Tryz.ntmps196
 go_wp2
 go_loopw [3,8] (fun l i wr=>∃ k:Nat,i=.int .i64 (k:Int)∧k≤xs.length ∧
  wr.ownsRow w.heap.size 38 3 l ((xs.take k).flatMap Pl.fdC).length (((xs.take k).flatMap Pl.fdC).flatMap enc)∧Below w.heap.size w wr) (fun _ i _=>xs.length - (intOf i).toNat)
 case atStart=>exact ⟨0,rfl,by omega,by simpa using World.ownsRow_nil _ _ _ _,Below.refl _ _⟩
 case round =>
  obtain ⟨k,rfl,hk,hrow,hB⟩:=hrel
  by_cases hlt:k<xs.length
  ·obtain rfl:=ha (by omega)
   have hg':=hg (by omega)
   have hltI:(k:Int)<(xs.length:Int):=by omega
   obtain ⟨⟨c,F,T⟩,hx⟩:∃ x,xs[k]=x:=⟨_,rfl⟩
   obtain ⟨k0,k1,k2⟩:=(hC.below hB fun _=>hg').c k hlt
   rw [hx] at k0 k1 k2
   rw [Nat.zero_add] at k0 k1 k2
   simp only at k0 k1 k2
   have hs1:=hB.size
   obtain ⟨pre,hpre⟩:∃ pre,(xs.take k).flatMap Pl.fdC=pre:=⟨_,rfl⟩
   rw [hpre] at hrow
   have hpl:pre.length≤536870912:=by have:=Pl.fd_le (xs.take k);rw [hpre,List.length_take] at this;omega
   have HT:Hid ((xs.take (k+1)).flatMap Pl.fdC=pre++Pl.fdC (c,F,T)):=by
    show _=_
    rw [List.take_add_one,List.getElem?_eq_getElem hlt,hx,List.flatMap_append,hpre];simp
   clear hx hpre
   have hrowA:=hrow.alloc (.cells #[.int .i64 (c:Int),.int .i64 (F:Int),.int .i64 (T:Int)] 38)
   have hBA:Below w.heap.size w (wr.alloc (.cells #[.int .i64 (c:Int),.int .i64 (F:Int),.int .i64 (T:Int)] 38)):=hB.alloc hs1 _
   have HNB:Hid (∀ d:Int,((wr.alloc (.cells #[.int .i64 (c:Int),.int .i64 (F:Int),.int .i64 (T:Int)] 38)).alloc (.cells #[.int .i64 d,.int .i64 (F:Int),.int .i64 (T:Int)] 38)).heap[wr.heap.size+1]?=some (.cells #[.int .i64 d,.int .i64 (F:Int),.int .i64 (T:Int)] 38 (0,0))):=fun d=>by
    have:=heap_alloc_new (wr.alloc (.cells #[.int .i64 (c:Int),.int .i64 (F:Int),.int .i64 (T:Int)] 38)) (.cells #[.int .i64 d,.int .i64 (F:Int),.int .i64 (T:Int)] 38)
    simpa using this
   by_cases h1:c=64257
   ·subst h1
    have HF:Hid (Pl.fdC (64257,F,T)=Pl.lts ⟨#[102,105]⟩ F T):=by show _=_;rw [lts_fi];rfl
    go_wp2_with (go_at_call 293;refine (appendWord_any w.heap.size _ pre ⟨#[102,105]⟩ (by decide) F T _ (by simp;omega) (by omega) hrowA).mono ?_;rintro e w3 ⟨v,rfl,hr3,hB3,_⟩)
    refine ⟨⟨k+1,by go_num,by omega,?_,hBA.trans hB3⟩,by simp [intOf];omega⟩
    rw [HT.out,HF.out];exact hr3
   ·have h1I:¬ (c:Int)=64257:=by omega
    by_cases h2:c=223
    ·subst h2
     have HF:Hid (Pl.fdC (223,F,T)=Pl.lts ⟨#[115,115]⟩ F T):=by show _=_;rw [lts_ss];rfl
     go_wp2_with (go_at_call 293;refine (appendWord_any w.heap.size _ pre ⟨#[115,115]⟩ (by decide) F T _ (by simp;omega) (by omega) hrowA).mono ?_;rintro e w3 ⟨v,rfl,hr3,hB3,_⟩)
     refine ⟨⟨k+1,by go_num,by omega,?_,hBA.trans hB3⟩,by simp [intOf];omega⟩
     rw [HT.out,HF.out];exact hr3
    ·have h2I:¬ (c:Int)=223:=by omega
     cases h3:Pl.wit c 65281 65374 with
     | true =>
      have HF:Hid (Pl.fdC (c,F,T)=[(c - 65248,F,T)]):=by show _=_;unfold Pl.fdC;rw [if_neg h1,if_neg h2,if_pos h3]
      have hc:65281≤c∧c≤65374:=by simpa [Pl.wit] using h3
      have hwi:witI c 65281 65374=true:=h3
      have hdI:(c:Int) - 65248=((c - 65248:Nat):Int):=by omega
      go_wp2_with (first | (go_at_call 294;refine (within_any _ _ _ (by omega) (by omega) _).mono ?_;rintro e w' ⟨rfl,hw⟩;rw [hw];clear hw w') | (at_builtin;go_must (refine wpList_append_lies _ (by rfl) _ _ 34 (by rfl) w.heap.size 38 i0 (.agg #[.int .i64 0,.int .i64 0,.int .i64 0]) 3 24 Tryz.underlying34 hi hz0 hz1 hz2 rfl (by decide) _ pre.length (pre.flatMap enc) (by rfl) (hrowA.alloc _) ⟨wr.heap.size+1,0,none⟩ 1 1 [.int .i64 ((c - 65248:Nat):Int),.int .i64 (F:Int),.int .i64 (T:Int)] (by rfl) rfl (World.news_of_block (HNB.out _)) (by simp [Value.oneCell']) (by decide) (by unfold maxLen;omega) (by omega) (by simp;omega) (wr.heap.size+1+1) (by simp) ?_);intro gn capn w3 hown1 hgrow hat hlt1;have hB3:Below w.heap.size w w3:=Below.grown (hBA.alloc (by simp;omega) _) hgrow (by simp;omega) fun j ej=>(ownBlock_lt hrow ej).2))
      refine ⟨⟨k+1,by go_num,by omega,?_,hB3⟩,by simp [intOf];omega⟩
      rw [HT.out,HF.out,enc_snoc,List.length_append]
      exact hown1
     | false =>
      have hwi:witI c 65281 65374=false:=h3
      have h3':¬ Pl.wit c 65281 65374=true:=by rw [h3];simp
      by_cases h4:c=160
      ·subst h4
       have HF:Hid (Pl.fdC (160,F,T)=[(32,F,T)]):=rfl
       go_wp2_with (first | (go_at_call 294;refine (within_any _ _ _ (by omega) (by omega) _).mono ?_;rintro e w' ⟨rfl,hw⟩;rw [hw];clear hw w') | (at_builtin;go_must (refine wpList_append_lies _ (by rfl) _ _ 34 (by rfl) w.heap.size 38 i0 (.agg #[.int .i64 0,.int .i64 0,.int .i64 0]) 3 24 Tryz.underlying34 hi hz0 hz1 hz2 rfl (by decide) _ pre.length (pre.flatMap enc) (by rfl) (hrowA.alloc _) ⟨wr.heap.size+1,0,none⟩ 1 1 [.int .i64 32,.int .i64 (F:Int),.int .i64 (T:Int)] (by rfl) rfl (World.news_of_block (HNB.out _)) (by simp [Value.oneCell']) (by decide) (by unfold maxLen;omega) (by omega) (by simp;omega) (wr.heap.size+1+1) (by simp) ?_);intro gn capn w3 hown1 hgrow hat hlt1;have hB3:Below w.heap.size w w3:=Below.grown (hBA.alloc (by simp;omega) _) hgrow (by simp;omega) fun j ej=>(ownBlock_lt hrow ej).2))
       refine ⟨⟨k+1,by go_num,by omega,?_,hB3⟩,by simp [intOf];omega⟩
       rw [HT.out,HF.out,enc_snoc,List.length_append]
       exact hown1
      ·have h4I:¬ (c:Int)=160:=by omega
       have HF:Hid (Pl.fdC (c,F,T)=[(c,F,T)]):=by show _=_;unfold Pl.fdC;rw [if_neg h1,if_neg h2,if_neg h3',if_neg h4]
       go_wp2_with (first | (go_at_call 294;refine (within_any _ _ _ (by omega) (by omega) _).mono ?_;rintro e w' ⟨rfl,hw⟩;rw [hw];clear hw w') | (at_builtin;go_must (refine wpList_append_lies _ (by rfl) _ _ 34 (by rfl) w.heap.size 38 i0 (.agg #[.int .i64 0,.int .i64 0,.int .i64 0]) 3 24 Tryz.underlying34 hi hz0 hz1 hz2 rfl (by decide) _ pre.length (pre.flatMap enc) (by rfl) (hrowA.alloc _) ⟨wr.heap.size+1,0,none⟩ 1 1 [.int .i64 (c:Int),.int .i64 (F:Int),.int .i64 (T:Int)] (by rfl) rfl (World.news_of_block (HNB.out _)) (by simp [Value.oneCell']) (by decide) (by unfold maxLen;omega) (by omega) (by simp;omega) (wr.heap.size+1+1) (by simp) ?_);intro gn capn w3 hown1 hgrow hat hlt1;have hB3:Below w.heap.size w w3:=Below.grown (hBA.alloc (by simp;omega) _) hgrow (by simp;omega) fun j ej=>(ownBlock_lt hrow ej).2))
       refine ⟨⟨k+1,by go_num,by omega,?_,hB3⟩,by simp [intOf];omega⟩
       rw [HT.out,HF.out,enc_snoc,List.length_append]
       exact hown1
  ·have hltI:¬ (k:Int)<(xs.length:Int):=by omega
   obtain rfl:k=xs.length:=by omega
   rw [List.take_length,HYS.out] at hrow
   go_wp2
   go_ret
   exact ⟨_,rfl,hrow,hB⟩
end Go.Proofs.YtcmgclckknpecaaGreatDoor
