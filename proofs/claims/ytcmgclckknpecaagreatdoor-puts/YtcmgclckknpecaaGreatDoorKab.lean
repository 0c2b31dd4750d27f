import Derived.Test.YtcmgclckknpecaaGreatDoorKaa
import Derived.Below
import Derived.Test.YtcmgclckknpecaaGreatDoorProg
import Derived.WalkKit
import Derived.WalkSpells
import Derived.WalkLawsBesides
import Derived.Deep.QuietTactic
import Derived.BigQuiet
import Derived.Deep.Light
import Derived.Laws.BitsAllLaws
import Derived.Laws.Bits128
import Derived.Deep.RegionHeld3
import Derived.Deep.AppendLies
import Derived.RangeFuncNested
import Derived.RangeFuncBound
import Derived.RangeFuncCalls
import Derived.RangeFuncLeaves
import Derived.RangeFuncBox
import Derived.Shelf.Abstract
import Derived.Shelf.RegionOpen
import Derived.OwnWalkIn
import Derived.TacticsInMore
import Derived.LoopNIn
import Derived.LoopIn
import Derived.Maps.AppendAt
namespace Go.Proofs.YtcmgclckknpecaaGreatDoor
open Go.RowKit Go.Maps
structure DcO (y:Nat) (D:DataW Value) (n:Nat) (kl:Lit) (w:World) (e:Ending) (w':World):Prop where
 ex:∃ β,e=.returned (.bool β)∧w'.ownsMap Tryz.prog 3 slE y n (D.del kl)∧w.grownBy w' (some y)
set_option maxRecDepth 100000 in
theorem dropc_any (y p n:Nat) (D:DataW Value) (s:ByteArray) (id:Int) (w:World) (hown:w.ownsMap Tryz.prog 3 slE y n D) (hp:w.cell? ⟨p,0,none⟩=some (.int .i64 id)) (hid:(Lit.int .i64 id).wf=true) :
  Calls Tryz.prog 314 #[.string s,.map (some y),.pointer (some ⟨p,0,none⟩)] w fun e w'=>DcO y D n (.int .i64 id) w e w':=by
 go_enter Tryz.func314,Tryz.ntmps314
 go_wp2_with (first
  | (at_delete;refine wpList_delete_own _ rfl _ _ 337 3 rfl 55 keyI Tryz.underlying337 _ y n D rfl hown _ _ rfl (klI hid) ?_;intro w1 hown1 hturn1)
  | (at_len;refine wpList_len_own _ rfl _ 337 rfl 3 55 Tryz.underlying337 _ y n _ rfl hown1 ?_)
  | go_in)
 go_ret
 exact ⟨_,rfl,hown1,hturn1.grown⟩
structure DfL (B:Nat) (F X Y:Nat→Prop) (N x p:Nat) (id:Int) (w wr:World) (left:Lit→Bool) (cnt n:Nat) (D:DataW Value):Prop where
 r:wr.ranges Tryz.prog 9 mpE x w.heap.size n D left cnt
 n:n≤N
 g:Gl B X Y N wr
 m:Mv B F X Y w wr
 b:wr.heap[p]?=some (.cells #[.int .i64 id] 3 (0,0))
theorem keyS_inv (key:Value) (kl:Lit) (h:keyOf Tryz.prog 9 key=some kl):∃ x,key=.string x:=by
 cases key <;> simp [keyOf,mapKey,Tryz.underlying9] at h
 exact ⟨_,rfl⟩
theorem mpE_inv (v:Value) (y:DataW Value × List MemPlace) (h:mpE v=some y):∃ c,v=.map c:=by
 cases v <;> simp [mpE] at h
 exact ⟨_,rfl⟩
theorem cell_of_block {w:World} {p:Nat} {v:Value} {t:TypeId} (h:w.heap[p]?=some (.cells #[v] t (0,0))):w.cell? ⟨p,0,none⟩=some v:=by simp [World.cell?,h]
set_option maxRecDepth 100000 in
set_option maxHeartbeats 2000000 in
theorem delfunc_any (B:Nat) (F X Y:Nat→Prop) (N x p:Nat) (id:Int) (w:World) (hG:Gl B X Y N w) (hx:X x) (hb:w.heap[p]?=some (.cells #[.int .i64 id] 3 (0,0))) (hid:(Lit.int .i64 id).wf=true) :
  Calls Tryz.prog 313 #[.map (some x),.func (.func 314) #[] #[.pointer (some ⟨p,0,none⟩)]] w fun e w'=>e=.returned (.tuple #[])∧Gl B X Y N w'∧Mv B F X Y w w':=by
 obtain ⟨DX,DY,hI⟩:=hG.ex
 obtain ⟨_,n,hn,hown⟩:=hI.x x hx
 clear hI DY
 go_enter Tryz.func313,Tryz.ntmps313
 go_wp2_with (first
  | (at_range;refine wpList_range_own _ rfl _ 173 rfl 9 337 keyS Tryz.underlying173 _ x n _ rfl hown ?_;intro w0 hrg0 hg0 hs0)
  | go_in)
 go_frame
 have hB0:Below w.heap.size w w0:=⟨hg0.os,hg0.tape,hg0.output,hg0.size,fun k hk=>hg0.block k hk (by simp)⟩
 have hpl:=(Array.getElem?_eq_some_iff.1 hb).1
 go_loopw [8] (fun _ wr=>∃ left cnt n D,DfL B F X Y N x p id w wr left cnt n D) (fun _ wr=>wr.rangeLeft x w.heap.size)
 case atStart=>exact ⟨_,_,_,_,hrg0,hn,hG.below hB0,Mv.below hB0,(hB0.block p hpl).trans hb⟩
 case round =>
  obtain ⟨left,cnt,n,D,hr⟩:=hrel
  have hrg:=hr.r
  go_wp2_with (first
   | (at_next;refine wpList_next_ranges _ rfl _ rfl 9 keyS mpE Value.string Value.map keyS_inv mpE_inv x w.heap.size n _ _ _ rfl hrg ?_ ?_)
   | go_in)
  ·intro _ hl0
   go_wp2
   go_end0
   exact ⟨rfl,hr.g,hr.m⟩
  ·intro s c kl yd yp w1 cnt1 hkey hlk hRv hat hrg1 hlt hg1 hs1 hen
   have hyd:yd=.held (.map c):=mpE_held hRv
   have hrb:∃ sn sc c0,wr.heap[w.heap.size]?=some (.mapIter (some x) sn sc c0):=by
    obtain ⟨es,cl,sn,sc,c0,_,_,_,_,q,_⟩:=hrg
    exact ⟨_,_,_,q⟩
   obtain ⟨sn,sc,c0,hrb⟩:=hrb
   have hG1:Gl B X Y N w1:=hr.g.far hg1 (fun q=>by have:=hG.x_lt q;omega) (fun q=>by have:=hG.y_lt q;omega) (fun c f q=>by rw [hrb] at q;cases q)
   have hM1:Mv B F X Y w w1:=hr.m.andThen hg1 fun i e=>by cases e;exact .inl (Nat.le_refl _)
   have hb1:w1.heap[p]?=some (.cells #[.int .i64 id] 3 (0,0)):=(hg1.block p (Nat.lt_of_lt_of_le hpl hr.m.size) (by simp;omega)).trans hr.b
   obtain ⟨y,rfl,hy⟩:∃ y,c=some y∧Y y:=by
    obtain ⟨DX',DY',hI'⟩:=hG1.ex
    obtain ⟨_,n',_,ho'⟩:=hI'.x x hx
    have hD:=ownsMap_fun hrg1.owns ho'
    rcases hI'.xk x kl hx with q | ⟨y,q,hy⟩
    ·have e1:=hat nlM
     have e2:=hat nlS
     rw [hD,q] at e1 e2
     rw [← e2] at e1
     simp at e1
    ·have e1:=hat nlM
     rw [hD,q,hyd] at e1
     injection e1 with e1
     injection e1 with e1
     exact ⟨y,e1.symm,hy⟩
   obtain ⟨DX',DY',hI1⟩:=hG1.ex
   obtain ⟨_,ny,hny,hoy⟩:=hI1.y y hy
   have hcl:=dropc_any y p ny (DY' y) s id w1 hoy (cell_of_block hb1) hid
   have hyw:=hG.y_lt hy
   have hxy:x≠y:=fun e=>by subst e;exact hI1.d _ hx hy
   have hpy:p≠y:=fun e=>by
    subst e
    obtain ⟨es,c,q,_⟩:=hoy
    rw [hb1] at q
    cases q
   have HCL:Hid (Calls Tryz.prog 314 #[.string s,.map (some y),.pointer (some ⟨p,0,none⟩)] w1 fun e w'=>DcO y (DY' y) ny (.int .i64 id) w1 e w'):=hcl
   clear hcl
   go_wp2_with fail
   refine HCL.out.mono ?_
   rintro e w2 hO
   obtain ⟨β,rfl,ho2,hg2⟩:=hO.ex
   have hG2:Gl B X Y N w2:=by
    obtain ⟨v,hv,_⟩:=hI1.yk y (.int .i64 id) hy
    exact ⟨DX',_,hI1.set_y (w1:=w1) hy (Nat.le_refl _) hv ⟨rfl,rfl,rfl,Nat.le_refl _,fun _ _ _=>rfl⟩ hg2 ho2 hny (fun kl hk=>atKey_del_other hk _) (atKey_del_same _) (Gs.nil _ _) (by simp [Value.ownBlock])⟩
   have hM2:Mv B F X Y w w2:=hM1.andThen hg2 fun i e=>by cases e;exact .inr (.inr (.inr (.inl hy)))
   have hrg2:=hrg1.kept hg2 (by simpa using hxy) (by simp;omega)
   have hb2:w2.heap[p]?=some (.cells #[.int .i64 id] 3 (0,0)):=(hg2.block p (Nat.lt_of_lt_of_le hpl hM1.size) (by simpa using hpy)).trans hb1
   have hrn:=hr.n
   clear hO hI1 hoy HCL hG1 hM1 hb1 hrg1 hr
   cases β with
   | false =>
    go_wp2_with fail
    go_roundw
    case rel=>exact ⟨_,cnt1,n,D,hrg2,hrn,hG2,hM2,hb2⟩
    case measure=>rw [hrg2.left_eq,hrg.left_eq];exact hlt
   | true =>
    go_wp2_with (first
     | (at_delete;refine wpList_delete_ranges _ rfl _ _ 173 9 rfl 337 keyS Tryz.underlying173 _ x w.heap.size n _ _ _ rfl hrg2 _ _ rfl hkey ?_;intro w3 cnt3 hrg3 hle hturn;go_frame)
     | go_in)
    rw [strike_twice] at hrg3
    go_roundw
    case rel =>
     refine ⟨_,cnt3,n,_,hrg3,hrn,?_,hM2.andThen hturn.grown fun i e=>by cases e;exact .inr (.inr (.inl hx)),(hturn.grown.block p (Nat.lt_of_lt_of_le hpl hM2.size) ?_).trans hb2⟩
     ·obtain ⟨DX2,DY2,hI2⟩:=hG2.ex
      obtain ⟨_,n',_,ho'⟩:=hI2.x x hx
      have hD:=ownsMap_fun hrg2.owns ho'
      refine ⟨_,DY2,hI2.set_x hx (Nat.le_refl _) hturn.grown hrg3.owns hrn fun kl'=>?_⟩
      by_cases hk:kl'=kl
      ·subst hk
       exact .inl fun z=>atKey_del_same z
      ·rw [hD]
       rcases hI2.xk x kl' hx with q | ⟨y',q,hy'⟩
       ·exact .inl fun z=>(atKey_del_other hk z).trans (q z)
       ·exact .inr ⟨y',fun z=>(atKey_del_other hk z).trans (q z),hy'⟩
     ·intro e
      injection e with e
      subst e
      obtain ⟨_,es,c,q⟩:=hG2.x_map hx
      rw [hb2] at q
      cases q
    case measure=>rw [hrg3.left_eq,hrg.left_eq];omega
set_option maxRecDepth 100000 in
theorem ixdrop_any (B:Nat) (F X Y:Nat→Prop) (N x:Nat) (id:Int) (w:World) (hG:Gl B X Y N w) (hx:X x) (hid:(Lit.int .i64 id).wf=true) :
  Calls Tryz.prog 229 #[.map (some x),.int .i64 id] w fun e w'=>e=.returned (.tuple #[])∧Gl B X Y N w'∧Mv B F X Y w w':=by
 have hBa:Below w.heap.size w (w.alloc (.cells #[.int .i64 id] 3)):=(Below.refl _ w).alloc (Nat.le_refl _) _
 have HDF:Hid (Calls Tryz.prog 313 #[.map (some x),.func (.func 314) #[] #[.pointer (some ⟨w.heap.size,0,none⟩)]] (w.alloc (.cells #[.int .i64 id] 3)) fun e w'=>e=.returned (.tuple #[])∧Gl B X Y N w'∧Mv B F X Y (w.alloc (.cells #[.int .i64 id] 3)) w') :=
  delfunc_any B F X Y N x w.heap.size id _ (hG.below hBa) hx (heap_alloc_new w _) hid
 go_enter Tryz.func229,Tryz.ntmps229
 go_wp2_with fail
 refine HDF.out.mono ?_
 rintro e w1 ⟨rfl,h1,h2⟩
 go_wp2_with fail
 go_end0
 exact ⟨rfl,h1,(Mv.below hBa).trans h2 (fun _ q=>.inl q) (fun _ q=>.inl q) (fun _ q=>.inl q)⟩
end Go.Proofs.YtcmgclckknpecaaGreatDoor
namespace Go.Proofs.YtcmgclckknpecaaGreatDoor
namespace Pl
def bt (s:ByteArray) (k:Nat):Nat:=if h:k<s.size then s[k].toNat else 0
theorem bt_eq {s:ByteArray} {k:Nat} (h:k<s.size):bt s k=s[k].toNat:=by rw [bt,dif_pos h]
theorem bt_lt (s:ByteArray) (k:Nat):bt s k<256:=by
 unfold bt;split
 ·exact UInt8.toNat_lt _
 ·omega
theorem bt_extract (s:ByteArray) (i j:Nat) (hi:i≤s.size):bt (s.extract i s.size) j=bt s (i+j):=by
 unfold bt
 by_cases h:i+j<s.size
 ·rw [dif_pos h,dif_pos (by simp;omega)]
  simp [ByteArray.getElem_extract]
 ·rw [dif_neg h,dif_neg (by simp;omega)]
def lenOf (b:Nat):Nat:=if b<128 then 1 else if b<194 then 0 else if b<224 then 2 else if b<240 then 3 else if b<245 then 4 else 0
def loOf (b:Nat):Nat:=if b=224 then 160 else if b=240 then 144 else 128
def hiOf (b:Nat):Nat:=if b=237 then 159 else if b=244 then 143 else 191
def good (b k c:Nat):Bool:=if k=1 then decide (loOf b≤c∧c≤hiOf b) else decide (128≤c∧c≤191)
theorem good_one (b c:Nat):good b 1 c=true ↔ loOf b≤c∧c≤hiOf b:=by simp [good]
theorem good_more {k:Nat} (b c:Nat) (h:k≠1):good b k c=true ↔ 128≤c∧c≤191:=by simp [good,h]
theorem lenOf_le (b : Nat) : lenOf b ≤ 4 := by unfold lenOf; repeat' split
                                               all_goals omega
def sz (f:Nat→Nat) (n:Nat):Nat→Nat→Nat
 | 0,k=>k
 | m+1,k=>if k<lenOf (f 0)∧k<n∧good (f 0) k (f k)=true then sz f n m (k+1) else k
def size (f:Nat→Nat) (n:Nat):Nat:=sz f n 3 1
def cd0 (b:Nat):Nat:=if lenOf b=2 then b % 32 else if lenOf b=3 then b % 16 else if lenOf b=4 then b % 8 else b
def codeTo (f:Nat→Nat):Nat→Nat
 | 0=>0
 | k+1=>if k=0 then cd0 (f 0) else codeTo f k*64+f k % 64
def code (f:Nat→Nat) (n:Nat):Nat:=if size f n=lenOf (f 0) then codeTo f (size f n) else 65533
theorem sz_ge (f:Nat→Nat) (n:Nat):∀ m k,k≤sz f n m k
 | 0,k=>Nat.le_refl _
 | m+1,k=>by
  unfold sz;split
  ·have:=sz_ge f n m (k+1);omega
  ·exact Nat.le_refl _
theorem sz_le (f:Nat→Nat) (n:Nat):∀ m k,k≤n→sz f n m k≤n
 | 0,k=>fun h=>h
 | m+1,k=>fun h=>by
  unfold sz;split
  ·rename_i h';exact sz_le f n m (k+1) (by omega)
  ·exact h
theorem size_ge (f:Nat→Nat) (n:Nat):1≤size f n:=sz_ge f n 3 1
theorem size_le (f:Nat→Nat) (n:Nat) (h:1≤n):size f n≤n:=sz_le f n 3 1 h
theorem sz_yes {f:Nat→Nat} {n k S:Nat} (h1:1≤k) (hL:k<lenOf (f 0)) (hn:k<n) (hg:good (f 0) k (f k)=true) (h:sz f n (4 - k) k=S):sz f n (4 - (k+1)) (k+1)=S:=by
 have:=lenOf_le (f 0)
 obtain ⟨m,hm⟩:∃ m,4 - k=m+1:=⟨4 - k - 1,by omega⟩
 rw [hm] at h
 unfold sz at h
 rw [if_pos ⟨hL,hn,hg⟩] at h
 rw [show 4 - (k+1)=m by omega];exact h
theorem sz_no {f:Nat→Nat} {n k S:Nat} (hk:¬ (k<lenOf (f 0)∧k<n∧good (f 0) k (f k)=true)) (h:sz f n (4 - k) k=S):S=k:=by
 cases hm:4 - k with
 | zero=>rw [hm] at h;exact h.symm
 | succ m=>rw [hm] at h;unfold sz at h;rw [if_neg hk] at h;exact h.symm
theorem codeTo_one (f:Nat→Nat):codeTo f 1=cd0 (f 0):=rfl
theorem codeTo_succ (f:Nat→Nat) {k:Nat} (h:1≤k):codeTo f (k+1)=codeTo f k*64+f k % 64:=by
 show (if k=0 then _ else _)=_
 rw [if_neg (by omega)]
theorem cd0_le (b:Nat):cd0 b≤b:=by
 unfold cd0;repeat' split
 all_goals omega
theorem codeTo_le (f:Nat→Nat) (h0:f 0<256) {k:Nat} (h:k≤4):codeTo f k≤67108863:=by
 have c:=cd0_le (f 0)
 have e1:=codeTo_one f
 have e2:codeTo f 2=codeTo f 1*64+f 1 % 64:=codeTo_succ f (k:=1) (by omega)
 have e3:codeTo f 3=codeTo f 2*64+f 2 % 64:=codeTo_succ f (k:=2) (by omega)
 have e4:codeTo f 4=codeTo f 3*64+f 3 % 64:=codeTo_succ f (k:=3) (by omega)
 have e0:codeTo f 0=0:=rfl
 obtain rfl | rfl | rfl | rfl | rfl:k=0∨k=1∨k=2∨k=3∨k=4:=by omega
 all_goals omega
theorem code_yes {f:Nat→Nat} {n:Nat} (h:size f n=lenOf (f 0)):code f n=codeTo f (lenOf (f 0)):=by
 unfold code;rw [if_pos h,h]
theorem code_no {f:Nat→Nat} {n:Nat} (h:size f n≠lenOf (f 0)):code f n=65533:=by
 unfold code;rw [if_neg h]
def cs (g:Nat→Nat) (n:Nat):Nat→Nat→List (Nat × Nat × Nat)
 | 0,_=>[]
 | m+1,i=>if i<n then (code (fun j=>g (i+j)) (n - i),i,i+size (fun j=>g (i+j)) (n - i)) :: cs g n m (i+size (fun j=>g (i+j)) (n - i)) else []
theorem cs_cons {g:Nat→Nat} {n m i:Nat} (h:i<n) (hm:n≤i+m):∃ m',n≤i+size (fun j=>g (i+j)) (n - i)+m' ∧
  cs g n m i=(code (fun j=>g (i+j)) (n - i),i,i+size (fun j=>g (i+j)) (n - i)) :: cs g n m' (i+size (fun j=>g (i+j)) (n - i)):=by
 obtain ⟨m',rfl⟩:∃ m',m=m'+1:=⟨m - 1,by omega⟩
 have:=size_ge (fun j=>g (i+j)) (n - i)
 exact ⟨m',by omega,by rw [cs,if_pos h]⟩
theorem cs_nil {g:Nat→Nat} {n m i:Nat} (h:¬ i<n):cs g n m i=[]:=by
 cases m with
 | zero=>rfl
 | succ m=>rw [cs,if_neg h]
theorem cs_length (g:Nat→Nat) (n:Nat):∀ m i,(cs g n m i).length≤n - i
 | 0,_=>Nat.zero_le _
 | m+1,i=>by
  rw [cs];split
  ·have:=cs_length g n m (i+size (fun j=>g (i+j)) (n - i))
   have:=size_ge (fun j=>g (i+j)) (n - i)
   simp only [List.length_cons];omega
  ·exact Nat.zero_le _
end Pl
end Go.Proofs.YtcmgclckknpecaaGreatDoor
namespace Go.Proofs.YtcmgclckknpecaaGreatDoor
open Go.RowKit
def ShapeOf (b L lo hi:Int):Prop:=L=Pl.lenOf b.toNat∧(2≤L→lo=Pl.loOf b.toNat∧hi=Pl.hiOf b.toNat)
set_option maxHeartbeats 1000000 in
theorem shapeOf_any (b:Int) (w:World) (h0:0≤b) (h1:b≤255) :
  Calls Tryz.prog 145 #[.int .u8 b] w fun e w'=>∃ L lo hi,e=.returned (.agg #[.int .i64 L,.int .u8 lo,.int .u8 hi])∧ShapeOf b L lo hi∧Below w.heap.size w w':=by
 go_enter Tryz.func145,Tryz.ntmps145
 go_wp2
 all_goals
  refine ⟨rfl,?_,?_,?_⟩
  rotate_left
  ·simp [results,Tryz.results145,go_sem];rfl
  ·refine ⟨_,_,_,rfl,?_,?_⟩
   rotate_left
   ·exact (Below.refl _ _).alloc (Nat.le_refl _) _
   ·go_light
    try have q1:=ne_of_beq_false ‹(b == 224)=false›
    try have q2:=ne_of_beq_false ‹(b == 237)=false›
    try have q3:=ne_of_beq_false ‹(b == 240)=false›
    try have q4:=ne_of_beq_false ‹(b == 244)=false›
    try have p1:=eq_of_beq ‹(b == 224)=true›
    try have p2:=eq_of_beq ‹(b == 237)=true›
    try have p3:=eq_of_beq ‹(b == 240)=true›
    try have p4:=eq_of_beq ‹(b == 244)=true›
    unfold ShapeOf Pl.lenOf Pl.loOf Pl.hiOf
    refine ⟨?_,fun _=>⟨?_,?_⟩⟩
    all_goals (repeat' split)
    all_goals omega
def Taken (lo hi k c:Int):Bool:=if k=1 then decide (lo≤c∧c≤hi) else decide (128≤c∧c≤191)
set_option maxHeartbeats 1000000 in
theorem takes_any (L lo hi k c:Int) (w:World) :
  Calls Tryz.prog 146 #[.agg #[.int .i64 L,.int .u8 lo,.int .u8 hi],.int .i64 k,.int .u8 c] w fun e w'=>e=.returned (.bool (Taken lo hi k c))∧w'=w.alloc (.cells #[.int .i64 L,.int .u8 lo,.int .u8 hi] 293):=by
 by_cases hk:k=1
 ·subst hk
  go_enter Tryz.func146,Tryz.ntmps146
  go_wp2
  ·go_ret
   refine ⟨?_,rfl⟩
   have:lo≤c:=by assumption
   simp [Taken,this]
  ·go_ret
   refine ⟨?_,rfl⟩
   have:c<lo:=by assumption
   simp [Taken]
   omega
 ·have hk':(k == 1)=false:=by simpa using hk
  go_enter Tryz.func146,Tryz.ntmps146
  go_wp2
  ·go_ret
   refine ⟨?_,rfl⟩
   have:128≤c:=by assumption
   simp [Taken,this,hk]
  ·go_ret
   refine ⟨?_,rfl⟩
   have:c<128:=by assumption
   simp [Taken,hk]
   omega
theorem lead_mk {b N lo hi:Int} (h:N=(Pl.lenOf b.toNat:Int) - 1∧lo=Pl.loOf b.toNat∧hi=Pl.hiOf b.toNat) :
  Ending.returned (.agg #[.int .i64 N,.int .u8 lo,.int .u8 hi])=.returned (.agg #[.int .i64 ((Pl.lenOf b.toNat:Int) - 1),.int .u8 (Pl.loOf b.toNat),.int .u8 (Pl.hiOf b.toNat)]):=by
 obtain ⟨e1,e2,e3⟩:=h
 rw [e1,e2,e3]
set_option maxHeartbeats 1000000 in
theorem lead_any (b:Int) (w:World) (h0:0≤b) (h1:b≤255) :
  Calls Tryz.prog 221 #[.int .u8 b] w fun e w'=>e=.returned (.agg #[.int .i64 ((Pl.lenOf b.toNat:Int) - 1),.int .u8 (Pl.loOf b.toNat),.int .u8 (Pl.hiOf b.toNat)])∧Below w.heap.size w w':=by
 go_enter Tryz.func221,Tryz.ntmps221
 go_wp2
 all_goals
  refine ⟨rfl,?_,?_,?_⟩
  rotate_left
  ·simp [results,Tryz.results221,go_sem];rfl
  ·refine ⟨lead_mk ?_,?_⟩
   ·go_light
    try have q1:=ne_of_beq_false ‹(b == 224)=false›
    try have q2:=ne_of_beq_false ‹(b == 237)=false›
    try have q3:=ne_of_beq_false ‹(b == 240)=false›
    try have q4:=ne_of_beq_false ‹(b == 244)=false›
    try have p1:=eq_of_beq ‹(b == 224)=true›
    try have p2:=eq_of_beq ‹(b == 237)=true›
    try have p3:=eq_of_beq ‹(b == 240)=true›
    try have p4:=eq_of_beq ‹(b == 244)=true›
    unfold Pl.lenOf Pl.loOf Pl.hiOf
    refine ⟨?_,?_,?_⟩
    all_goals (repeat' split)
    all_goals omega
   ·exact ((Below.refl _ _).alloc (Nat.le_refl _) _).alloc (by simp) _
theorem num_any (n:Int) (w:World):Calls Tryz.prog 16 #[.int .i64 n] w fun e w'=>e=.returned (.int .i64 n)∧w'=w:=by
 go_enter Tryz.func16,Tryz.ntmps16
 go_wp2
 go_ret
 exact ⟨rfl,rfl⟩
end Go.Proofs.YtcmgclckknpecaaGreatDoor
namespace Go.Proofs.YtcmgclckknpecaaGreatDoor
theorem i64_mask (n:Int) (j:Nat) (m:Int) (hj:(BitVec.ofInt 64 m).toNat=2 ^ j - 1) (hk:j≤8):bits .and .i64 n m=n % 2 ^ j:=by
 have key:(BitVec.ofInt 64 n &&& BitVec.ofInt 64 m).toNat=(n % ((2 ^ 64:Nat):Int)).toNat % 2 ^ j:=by
  rw [BitVec.toNat_and,BitVec.toNat_ofInt,hj,Nat.and_two_pow_sub_one_eq_mod]
 show IntKind.i64.wrap ((BitVec.ofInt 64 n &&& BitVec.ofInt 64 m).toNat:Nat)=n % 2 ^ j
 rw [key,IntKind.wrap_i64]
 clear key hj
 obtain rfl | rfl | rfl | rfl | rfl | rfl | rfl | rfl | rfl:j=0∨j=1∨j=2∨j=3∨j=4∨j=5∨j=6∨j=7∨j=8:=by omega
 all_goals omega
theorem i64_and7 (n:Int):bits .and .i64 n 7=n % 8:=i64_mask n 3 7 (by decide) (by decide)
theorem i64_and15 (n:Int):bits .and .i64 n 15=n % 16:=i64_mask n 4 15 (by decide) (by decide)
theorem i64_and31 (n:Int):bits .and .i64 n 31=n % 32:=i64_mask n 5 31 (by decide) (by decide)
theorem i64_and63 (n:Int):bits .and .i64 n 63=n % 64:=i64_mask n 6 63 (by decide) (by decide)
theorem u8_and63 (n:Int) (h0:0≤n) (h1:n<256):bits .and .u8 n 63=n % 64:=by
 rw [u8_and n 63 h0 h1 (by decide) (by decide)]
 obtain ⟨k,rfl⟩:=Int.eq_ofNat_of_zero_le h0
 simp only [Int.toNat_natCast]
 rw [show (63:Int).toNat=63 from rfl,nat_mask6]
 omega
theorem ofInt_i64 (a:Nat) (ha:a<18446744073709551616):(BitVec.ofInt 64 (a:Int)).toNat=a:=by
 rw [BitVec.ofInt_natCast,BitVec.toNat_ofNat];exact Nat.mod_eq_of_lt (by omega)
theorem i64_or64 (x y:Int) (hx:0≤x) (hx':x<1099511627776) (hy:0≤y) (hy':y<64):bits .or .i64 (x*64) y=x*64+y:=by
 obtain ⟨a,rfl⟩:=Int.eq_ofNat_of_zero_le hx
 obtain ⟨b,rfl⟩:=Int.eq_ofNat_of_zero_le hy
 have hj:(a*64) ||| b=a*64+b:=nat_join 6 (a*64) b (by omega) (by omega)
 show IntKind.i64.wrap ((BitVec.ofInt 64 ((a:Int)*64) ||| BitVec.ofInt 64 (b:Int)).toNat:Nat)=_
 rw [show ((a:Int)*64)=((a*64:Nat):Int) by omega,BitVec.toNat_or,ofInt_i64 _ (by omega),ofInt_i64 _ (by omega),hj,IntKind.wrap_i64]
 omega
end Go.Proofs.YtcmgclckknpecaaGreatDoor
namespace Go.Proofs.YtcmgclckknpecaaGreatDoor
open Go.RowKit
theorem ret_int {k:IntKind} {a b:Int} (h:a=b):Ending.returned (.int k a)=.returned (.int k b):=by rw [h]
theorem w64_byte (b:UInt8):wrap64 (b.toNat:Int)=b.toNat:=by
 have:=UInt8.toNat_lt b
 unfold wrap64;omega
set_option maxHeartbeats 400000 in
theorem decode_one (t:ByteArray) (w:World) (hL:t.size=1) :
  Calls Tryz.prog 147 #[.string t] w fun e w'=>e=.returned (.int .i64 (Pl.bt t 0))∧w'=w:=by
 have h1:((t.size:Int) == 1)=true:=by simp [hL]
 have hlt:0<t.size:=by omega
 clear hL
 go_enter Tryz.func147,Tryz.ntmps147
 go_wp2
 go_ret
 refine ⟨?_,rfl⟩
 rw [Pl.bt_eq hlt]
 exact ret_int (w64_byte _)
set_option maxHeartbeats 400000 in
theorem decode_more (t:ByteArray) (w:World) (L:Nat) (h2:t.size=L) (hL2:2≤L) (hL4:L≤4) (hL:Pl.lenOf (Pl.bt t 0)=L) :
  Calls Tryz.prog 147 #[.string t] w fun e w'=>e=.returned (.int .i64 (Pl.codeTo (Pl.bt t) L))∧∃ q,w'=w.drewN q:=by
 have h1:((t.size:Int) == 1)=false:=by simp;omega
 have hlt:0<t.size:=by omega
 have hlt':(0:Int)<t.size:=by omega
 have hb:=UInt8.toNat_lt t[0]
 have hc:Pl.codeTo (Pl.bt t) 1=if L=2 then t[0].toNat % 32 else if L=3 then t[0].toNat % 16 else t[0].toNat % 8:=by
  rw [Pl.codeTo_one,Pl.cd0,hL,Pl.bt_eq hlt]
  repeat' split
  all_goals first | rfl | omega
 have HC:Hid (Pl.codeTo (Pl.bt t) 1=if L=2 then t[0].toNat % 32 else if L=3 then t[0].toNat % 16 else t[0].toNat % 8):=hc
 clear hc hL
 obtain rfl | rfl | rfl:L=2∨L=3∨L=4:=by omega
 all_goals
  go_enter Tryz.func147,Tryz.ntmps147
  go_wp2
  go_quiet (fail)
  go_wp2
  go_loop [3,4] (fun c a=>∃ k:Nat,1≤k∧k≤t.size∧a=.int .i64 k∧c=.int .i64 (Pl.codeTo (Pl.bt t) k)) (fun _ a=>4 - (intOf a).toNat)
  case atStart =>
   refine ⟨1,by omega,by omega,rfl,?_⟩
   go_light
   have hc:=HC.out
   simp at hc
   rw [hc]
   first | rw [i64_and31] | rw [i64_and15] | rw [i64_and7]
   go_num
  case round =>
   obtain ⟨k,hk1,hk2,rfl,rfl⟩:=hrel
   have hle:(Pl.codeTo (Pl.bt t) k:Int)≤67108863:=by have:=Pl.codeTo_le (Pl.bt t) (Pl.bt_lt t 0) (k:=k) (by omega);omega
   by_cases hkl:k<t.size
   ·have hbk:=UInt8.toNat_lt t[k]
    have hs:=Pl.codeTo_succ (Pl.bt t) hk1
    rw [Pl.bt_eq hkl] at hs
    have HS:Hid (Pl.codeTo (Pl.bt t) (k+1)=Pl.codeTo (Pl.bt t) k*64+t[k].toNat % 64):=hs
    clear hs
    go_wp2
    go_round
    case rel =>
     refine ⟨k+1,by omega,by omega,by go_num,?_⟩
     go_light
     rw [HS.out,i64_and63,i64_or64 _ _ (by omega) (by omega) (by omega) (by omega)]
     go_num
    case measure=>simp [intOf];omega
   ·go_wp2
    go_ret
    refine ⟨?_,nq,rfl⟩
    obtain rfl:k=t.size:=by omega
    exact ret_int (by rw [h2])
end Go.Proofs.YtcmgclckknpecaaGreatDoor
namespace Go.Proofs.YtcmgclckknpecaaGreatDoor
open Go.RowKit
theorem taken_good {lo hi:Int} {b k c:Nat} (hlo:lo=Pl.loOf b) (hhi:hi=Pl.hiOf b):Taken lo hi k c=Pl.good b k c:=by
 unfold Taken Pl.good
 subst hlo hhi
 by_cases h:k=1
 ·subst h;simp
 ·have h':¬ (k:Int)=1:=by omega
  rw [if_neg h',if_neg h]
  have e:(128≤(c:Int)∧(c:Int)≤191) ↔ (128≤c∧c≤191):=by omega
  simp only [e]
theorem bt_pre (t:ByteArray) (j i:Nat) (hj:j≤t.size) (hi:i<j):Pl.bt (t.extract 0 j) i=Pl.bt t i:=by
 unfold Pl.bt
 rw [dif_pos (by simp;omega),dif_pos (by omega)]
 simp [ByteArray.getElem_extract]
theorem codeTo_pre {f g:Nat→Nat}:∀ (k:Nat),(∀ i,i<k→f i=g i)→Pl.codeTo f k=Pl.codeTo g k
 | 0,_=>rfl
 | k+1,h=>by
  have e:=codeTo_pre k (fun i hi=>h i (by omega))
  unfold Pl.codeTo
  rw [e,h k (by omega),h 0 (by omega)]
theorem decode_pre (t:ByteArray) (w:World) (j:Nat) (h1:1≤j) (hj:j≤t.size) (hL:Pl.lenOf (Pl.bt t 0)=j) :
  Calls Tryz.prog 147 #[.string (t.extract 0 j)] w fun e w'=>e=.returned (.int .i64 (Pl.codeTo (Pl.bt t) j))∧∃ q,w'=w.drewN q:=by
 have hs:(t.extract 0 j).size=j:=by simp;omega
 have h0:Pl.bt (t.extract 0 j) 0=Pl.bt t 0:=bt_pre t j 0 hj (by omega)
 have h4:=Pl.lenOf_le (Pl.bt t 0)
 rw [← codeTo_pre (f:=Pl.bt (t.extract 0 j)) j (fun i hi=>bt_pre t j i hj hi)]
 by_cases hj1:j=1
 ·subst hj1
  refine (decode_one _ w hs).mono ?_
  rintro e w' ⟨rfl,rfl⟩
  refine ⟨ret_int ?_,0,rfl⟩
  rw [Pl.codeTo_one,Pl.cd0,h0,hL]
  simp
 ·exact decode_more _ w j hs (by omega) (by omega) (by rw [h0,hL])
theorem ret_two {a b c d:Int} (h:a=c) (h':b=d):Ending.returned (.tuple #[.int .i64 a,.int .i64 b])=.returned (.tuple #[.int .i64 c,.int .i64 d]):=by rw [h,h']
set_option maxHeartbeats 1000000 in
theorem first_any (t:ByteArray) (w:World) (h1:1≤t.size) (hm:t.size≤120) :
  Calls Tryz.prog 84 #[.string t] w fun e w'=>e=.returned (.tuple #[.int .i64 (Pl.code (Pl.bt t) t.size),.int .i64 (Pl.size (Pl.bt t) t.size)])∧Below w.heap.size w w':=by
 have hlt:0<t.size:=by omega
 have hb0:=UInt8.toNat_lt t[0]
 go_enter Tryz.func84,Tryz.ntmps84
 go_wp2_with (go_at_call 145;refine (shapeOf_any _ _ (by omega) (by omega)).mono ?_;rintro e w1 ⟨L,lo,hi,rfl,hsh,hb⟩)
 obtain ⟨hL,hlh⟩:=hsh
 rw [Int.toNat_natCast,← Pl.bt_eq hlt] at hL hlh
 obtain ⟨nL,hnL⟩:∃ nL,Pl.lenOf (Pl.bt t 0)=nL:=⟨_,rfl⟩
 have hn4:=Pl.lenOf_le (Pl.bt t 0)
 rw [hnL] at hL hn4
 subst hL
 have HnL:Hid (Pl.lenOf (Pl.bt t 0)=nL):=hnL
 clear hnL
 obtain ⟨W0,hW0⟩:∃ W0,w1.alloc (.cells #[.int .i64 nL,.int .u8 lo,.int .u8 hi] 293)=W0:=⟨_,rfl⟩
 rw [hW0]
 have hs0:w1.heap.size<W0.heap.size:=by rw [← hW0];simp
 have hbW:Below w.heap.size w W0:=by rw [← hW0];exact hb.alloc hb.size _
 have cc:W0.cell? ⟨w1.heap.size,0,none⟩=some (.int .i64 nL)∧W0.cell? ⟨w1.heap.size,1,none⟩=some (.int .u8 lo)∧W0.cell? ⟨w1.heap.size,2,none⟩=some (.int .u8 hi):=by
  rw [← hW0];simp [go_sem]
 clear hW0
 go_loopw [3] (fun k wr=>∃ j:Nat,k=.int .i64 j∧1≤j∧j≤4∧j≤t.size∧Pl.sz (Pl.bt t) t.size (4 - j) j=Pl.size (Pl.bt t) t.size∧Below W0.heap.size W0 wr) (fun k _=>4 - (intOf k).toNat)
 case atStart=>exact ⟨1,rfl,by omega,by omega,by omega,rfl,Below.refl _ _⟩
 case round =>
  obtain ⟨j,rfl,hj1,hj4,hjn,hsz,hB⟩:=hrel
  have HS:Hid (Pl.sz (Pl.bt t) t.size (4 - j) j=Pl.size (Pl.bt t) t.size):=hsz
  clear hsz
  have c0:wr.cell? ⟨w1.heap.size,0,none⟩=some (.int .i64 nL):=(hB.cell (p:=⟨w1.heap.size,0,none⟩) hs0).trans cc.1
  have c1:wr.cell? ⟨w1.heap.size,1,none⟩=some (.int .u8 lo):=(hB.cell (p:=⟨w1.heap.size,1,none⟩) hs0).trans cc.2.1
  have c2:wr.cell? ⟨w1.heap.size,2,none⟩=some (.int .u8 hi):=(hB.cell (p:=⟨w1.heap.size,2,none⟩) hs0).trans cc.2.2
  have hbr:Below w.heap.size w wr:=hbW.trans (hB.mono hbW.size)
  by_cases hk:j<nL
  ·by_cases hjs:j<t.size
   ·have hk':(j:Int)<(nL:Int):=by omega
    have hjs':(j:Int)<(t.size:Int):=by omega
    have n0:=World.new_ne wr _ c0
    have n1:=World.new_ne wr _ c1
    have n2:=World.new_ne wr _ c2
    by_cases hT:Taken lo hi j t[j].toNat=true
    ·go_wp2_with fail
     go_region_held3 (fun w'=>w'.cell? ⟨w1.heap.size,0,none⟩=some (.int .i64 nL)∧w'.cell? ⟨w1.heap.size,1,none⟩=some (.int .u8 lo)∧w'.cell? ⟨w1.heap.size,2,none⟩=some (.int .u8 hi)) (go_keep) ((go_at_call 146;refine (takes_any _ _ _ _ _ _).mono ?_;rintro e w' ⟨rfl,rfl⟩))
     go_wp2
     go_roundw
     case rel =>
      refine ⟨j+1,by go_num,by omega,by omega,by omega,?_,?_⟩
      ·refine Pl.sz_yes hj1 (by rw [HnL.out];exact hk) hjs ?_ HS.out
       rw [← taken_good (hlh (by omega)).1 (hlh (by omega)).2,Pl.bt_eq hjs];exact hT
      ·exact (hB.alloc hB.size _).drew
     case measure=>simp [intOf];omega
    ·have hT':Taken lo hi j t[j].toNat=false:=by simpa using hT
     have he':((j:Int) != (nL:Int))=true:=by simp;omega
     have HSJ:Hid (Pl.size (Pl.bt t) t.size=j):=by
      refine Pl.sz_no ?_ HS.out
      rintro ⟨_,_,hg⟩
      rw [← taken_good (hlh (by omega)).1 (hlh (by omega)).2,Pl.bt_eq hjs] at hg
      exact hT hg
     clear hT
     go_wp2_with fail
     go_region_held3 (fun w'=>w'.cell? ⟨w1.heap.size,0,none⟩=some (.int .i64 nL)∧w'.cell? ⟨w1.heap.size,1,none⟩=some (.int .u8 lo)∧w'.cell? ⟨w1.heap.size,2,none⟩=some (.int .u8 hi)) (go_keep) ((go_at_call 146;refine (takes_any _ _ _ _ _ _).mono ?_;rintro e w' ⟨rfl,rfl⟩))
     go_wp2
     go_ret2
     refine ⟨ret_two ?_ ?_,?_⟩
     ·rw [Pl.code_no (by rw [HSJ.out,HnL.out];omega)];rfl
     ·rw [HSJ.out]
     ·exact (hbr.alloc hbr.size _).drew
   ·have hk':(j:Int)<(nL:Int):=by omega
    have hd:decide ((j:Int)<(t.size:Int))=false:=by simp;omega
    have he':((j:Int) != (nL:Int))=true:=by simp;omega
    have HSJ:Hid (Pl.size (Pl.bt t) t.size=j):=Pl.sz_no (by rintro ⟨_,h,_⟩;exact hjs h) HS.out
    go_wp2_with fail
    go_quiet (fail)
    go_wp2
    go_ret2
    refine ⟨ret_two ?_ ?_,?_⟩
    ·rw [Pl.code_no (by rw [HSJ.out,HnL.out];omega)];rfl
    ·rw [HSJ.out]
    ·exact below_drewN hbr _
  ·have hd:decide ((j:Int)<(nL:Int))=false:=by simp;omega
   have HSJ:Hid (Pl.size (Pl.bt t) t.size=j):=Pl.sz_no (by rintro ⟨h,_⟩;rw [HnL.out] at h;exact hk h) HS.out
   go_wp2_with fail
   go_quiet (fail)
   by_cases he:j=nL
   ·subst he
    have he':((j:Int) != (j:Int))=false:=by simp
    go_wp2_with (go_at_call 147;refine (decode_pre t _ j hj1 hjn HnL.out).mono ?_;rintro e w2 ⟨rfl,q2,rfl⟩)
    go_ret2
    refine ⟨ret_two ?_ ?_,?_⟩
    ·rw [Pl.code_yes (by rw [HSJ.out,HnL.out]),HnL.out]
    ·rw [HSJ.out]
    ·exact below_drewN hbr _
   ·have he':((j:Int) != (nL:Int))=true:=by simp;omega
    go_wp2
    go_ret2
    refine ⟨ret_two ?_ ?_,?_⟩
    ·rw [Pl.code_no (by rw [HSJ.out,HnL.out];omega)];rfl
    ·rw [HSJ.out]
    ·exact below_drewN hbr _
end Go.Proofs.YtcmgclckknpecaaGreatDoor
namespace Go.Proofs.YtcmgclckknpecaaGreatDoor
open Go.RowKit
def enc (x:Nat × Nat × Nat):List Value:=[.int .i64 (x.1:Int),.int .i64 (x.2.1:Int),.int .i64 (x.2.2:Int)]
theorem enc_one (x:Nat × Nat × Nat):∀ u∈enc x,u.oneCell'=true:=by simp [enc,Value.oneCell']
theorem enc_snoc (xs:List (Nat × Nat × Nat)) (x:Nat × Nat × Nat):(xs++[x]).flatMap enc=xs.flatMap enc++enc x:=by simp [List.flatMap_append]
theorem ownsRow_below {A B:World} {base:Nat} {e:TypeId} {size:Nat} {v:Value} {n:Nat} {xs:List Value} (h:A.ownsRow base e size v n xs) (hb:Below A.heap.size A B):B.ownsRow base e size v n xs:=by
 refine ⟨h.1,?_⟩
 rcases h.2 with h | ⟨g,cap,cur,hv,hg,hh,r⟩
 ·exact .inl h
 ·exact .inr ⟨g,cap,cur,hv,hg,(hb.block g (Array.getElem?_eq_some_iff.1 hh).1).trans hh,r⟩
theorem ownBlock_lt {w:World} {base:Nat} {e:TypeId} {size:Nat} {v:Value} {n:Nat} {xs:List Value} (h:w.ownsRow base e size v n xs) {g:Nat} (hg:v.ownBlock=some g):g<w.heap.size∧base≤g:=by
 rcases h.2 with ⟨rfl,_⟩ | ⟨g',cap,cur,rfl,hb,hh,_⟩
 ·simp [Value.ownBlock] at hg
 ·obtain rfl:g'=g:=by simpa [Value.ownBlock] using hg
  exact ⟨(Array.getElem?_eq_some_iff.1 hh).1,hb⟩
theorem step3 {w wr w2 w1:World} {B:Nat} {e:TypeId} {l:Value} {k:Nat} {xs:List Value} {C T:Obj} (hrow:wr.ownsRow B e 3 l k xs) (hB:Below B w wr) (hBs:B≤wr.heap.size) (h2:Below wr.heap.size wr w2)
  (hgrow:((w2.alloc C).alloc T).grownBy w1 l.ownBlock) :
  (∀ j,w1.cell? ⟨w2.heap.size,j,none⟩=((w2.alloc C).alloc T).cell? ⟨w2.heap.size,j,none⟩)∧Below B w w1:=by
 have hs:=h2.size
 refine ⟨fun j=>hgrow.cell_far _ (by simp;omega) ?_,?_⟩
 ·intro e'
  have:=(ownBlock_lt hrow e'.symm).1
  simp at this
  omega
 ·refine Below.grown ((((hB.trans (h2.mono hBs)).alloc (by omega) C).alloc (by simp;omega) T)) hgrow (by simp;omega) fun j ej=>?_
  exact (ownBlock_lt hrow ej).2
end Go.Proofs.YtcmgclckknpecaaGreatDoor
namespace Go.Proofs.YtcmgclckknpecaaGreatDoor
open Go.RowKit Go.Shelf
attribute [local go_sem] Oper.semAt_some
def encs (x:Nat × Nat × Nat):Array Value:=#[.agg #[.int .i64 (x.1:Int),.int .i64 (x.2.1:Int),.int .i64 (x.2.2:Int)]]
theorem grown_below {A B:World} (h:Below A.heap.size A B):A.grownBy B none:=⟨h.os,h.tape,h.output,h.size,fun k hk _=>h.block k hk⟩
set_option maxHeartbeats 400000 in
theorem characters_in (F:Fence) (n:Nat) (h:F.fn 41) (hro:F.round=none) (s:ByteArray) (w:World) :
  CallsIn F n Tryz.prog 41 #[.string s] w fun e w'=>e=.returned (.func (.func 83) #[] #[.pointer (some ⟨w.heap.size,0,none⟩)])∧w'=w.alloc (.cells #[.string s] 9):=by
 refine callsIn_of_wp Tryz.func41 rfl h ?_ hro
 simp only [Tryz.ntmps41,List.size_toArray,List.length_cons,List.length_nil,Nat.reduceAdd,Nat.reduceSub,Array.replicate_succ,Array.replicate_zero,List.push_toArray,List.append_toArray,List.nil_append,List.cons_append]
 gi_wp2
 go_ret
 exact ⟨rfl,rfl⟩
set_option maxRecDepth 100000 in
set_option maxHeartbeats 1000000 in
theorem seq_in (n:Nat) (hn:1≤n) (l Bn n0:Nat) (s:ByteArray) (hm:s.size≤120) (xs:List (Nat × Nat × Nat)) (HXS:Hid (Pl.cs (Pl.bt s) s.size s.size 0=xs)) (J Jx:List (Nat × Nat × Nat)→World→Prop)
  (W:World) (hBn:Bn<n0) (hJ:AbidesFrom W.heap.size J)
  (hY:∀ pre x W,J pre W→pre.length<xs.length→YieldAt Fence.wide (n - 1) Tryz.prog l (encs x) W fun e W' =>
   (e=.returned (.bool true)∧J (pre++[x]) W'∧Below n0 W W')∨(e=.returned (.bool false)∧Jx (pre++[x]) W'))
  (hc:W.cell? ⟨Bn,0,none⟩=some (.string s)) (hn0:n0≤W.heap.size) (h0:J [] W) :
  CallsIn Fence.wide n Tryz.prog 83 #[.func (.yield l) #[] #[],.pointer (some ⟨Bn,0,none⟩)] W fun e W'=>(∃ v,e=.returned v) ∧
   ((∃ ys,ys=xs∧J ys W')∨(∃ pre,pre <+: xs∧Jx pre W')):=by
 refine callsIn_of_wp Tryz.func83 rfl trivial ?_ rfl
 simp only [Tryz.ntmps83,List.size_toArray,List.length_cons,List.length_nil,Nat.reduceAdd,Nat.reduceSub,Array.replicate_succ,Array.replicate_zero,List.push_toArray,List.append_toArray,List.nil_append,List.cons_append]
 gi_wp2
 gi_loopw [3] (fun a wr=>∃ (k m:Nat) (pre:List (Nat × Nat × Nat)),a=.int .i64 k∧k≤s.size∧s.size≤k+m∧Hid (pre++Pl.cs (Pl.bt s) s.size m k=xs)∧wr.cell? ⟨Bn,0,none⟩=some (.string s)∧n0≤wr.heap.size∧J pre wr) (fun a _=>s.size - (intOf a).toNat)
 case atStart=>exact ⟨0,s.size,[],rfl,by omega,by omega,HXS,hc,hn0,h0⟩
 case round =>
  obtain ⟨k,m,pre,rfl,hk,hkm,HX,hcr,hnr,hJr⟩:=hrel
  by_cases hlt:k<s.size
  ·have hlt':(k:Int)<(s.size:Int):=by omega
   obtain ⟨m',hm',hcs⟩:=Pl.cs_cons (g:=Pl.bt s) (m:=m) hlt hkm
   have hsz1:=Pl.size_ge (fun j=>Pl.bt s (k+j)) (s.size - k)
   have hsz2:=Pl.size_le (fun j=>Pl.bt s (k+j)) (s.size - k) (by omega)
   have hes:(s.extract k s.size).size=s.size - k:=by simp
   have hfi:=fun w=>first_any (s.extract k s.size) w (by omega) (by omega)
   have heb:Pl.bt (s.extract k s.size)=fun j=>Pl.bt s (k+j):=funext fun j=>Pl.bt_extract s k j (by omega)
   rw [hes,heb] at hfi
   obtain ⟨cd,hcd⟩:∃ cd,Pl.code (fun j=>Pl.bt s (k+j)) (s.size - k)=cd:=⟨_,rfl⟩
   obtain ⟨sz,hsz⟩:∃ sz,Pl.size (fun j=>Pl.bt s (k+j)) (s.size - k)=sz:=⟨_,rfl⟩
   rw [hcd,hsz] at hcs hfi
   rw [hsz] at hm' hsz1 hsz2
   have HX2:Hid ((pre++[(cd,k,k+sz)])++Pl.cs (Pl.bt s) s.size m' (k+sz)=xs):=by
    have:=HX.out;rw [hcs] at this;show _=_;rw [← this];simp
   have hpl:pre.length<xs.length:=by
    have:=congrArg List.length HX2.out;simp at this;omega
   have HFI:Hid (∀ w,Calls Tryz.prog 84 #[.string (s.extract k s.size)] w fun e w'=>e=.returned (.tuple #[.int .i64 (cd:Int),.int .i64 (sz:Int)])∧Below w.heap.size w w'):=hfi
   clear hfi hcs hcd hsz heb hes HX
   gi_wp2_with fail
   refine ⟨trivial,?_⟩
   refine (callsIn_wide.2 (HFI.out _)).mono ?_
   rintro e w2 ⟨rfl,h2⟩
   have hJ2:J pre w2:=hJ pre wr w2 none hJr (grown_below h2) (fun r e=>by cases e)
   have hc2:w2.cell? ⟨Bn,0,none⟩=some (.string s):=(h2.cell (p:=⟨Bn,0,none⟩) (by show Bn<_;omega)).trans hcr
   have hn2:n0≤w2.heap.size:=by have:=h2.size;omega
   obtain ⟨fn,tmps,assign,body,hy,hR⟩:=hY pre (cd,k,k+sz) w2 hJ2 hpl
   simp only [encs,Int.natCast_add] at hy
   gi_wp2
   refine hR.mono ?_
   rintro e W3 (⟨rfl,hJ3,hk3⟩ | ⟨rfl,hJx3⟩)
   ·have hc3:W3.cell? ⟨Bn,0,none⟩=some (.string s):=(hk3.cell (p:=⟨Bn,0,none⟩) hBn).trans hc2
    gi_wp2
    go_roundw
    case rel=>exact ⟨k+sz,m',pre++[(cd,k,k+sz)],by go_num,by omega,hm',HX2,hc3,by have:=hk3.size;omega,hJ3⟩
    case measure=>simp [intOf];omega
   ·gi_wp2
    refine bodyPost_ret (results_none rfl _ _ _) rfl ?_
    exact ⟨⟨_,rfl⟩,.inr ⟨pre++[(cd,k,k+sz)],⟨_,HX2.out⟩,hJx3⟩⟩
  ·have hx:pre=xs:=by have:=HX.out;rw [Pl.cs_nil hlt] at this;simpa using this
   gi_wp2
   go_end0
   exact ⟨⟨_,rfl⟩,.inl ⟨pre,hx,hJr⟩⟩
end Go.Proofs.YtcmgclckknpecaaGreatDoor
