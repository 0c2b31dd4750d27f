import Derived.Below
import Derived.Test.YtcmgclckknpecaaGreatDoorProg
import Derived.WalkKit
import Derived.WalkSpells
import Derived.WalkLawsBesides
import Derived.Deep.QuietTactic
import Derived.BigQuiet
import Derived.Deep.Light
namespace Go.Proofs.YtcmgclckknpecaaGreatDoor
namespace Pl
def bt (s:ByteArray) (k:Nat):Nat:=if h:k<s.size then s[k].toNat else 0
theorem bt_eq {s:ByteArray} {k:Nat} (h:k<s.size):bt s k=s[k].toNat:=by rw [bt,dif_pos h]
theorem bt_lt (s:ByteArray) (k:Nat):bt s k<256:=by
 unfold bt;split
 ·exact UInt8.toNat_lt _
 ·omega
theorem bt_extract (s:ByteArray) (i j:Nat) (hi:i≤s.size):bt (s.extract i s.size) j=bt s (i+j):=by
 unfold bt
 by_cases h:i+j<s.size
 ·rw [dif_pos h,dif_pos (by simp;omega)]
  simp [ByteArray.getElem_extract]
 ·rw [dif_neg h,dif_neg (by simp;omega)]
def lenOf (b:Nat):Nat:=if b<128 then 1 else if b<194 then 0 else if b<224 then 2 else if b<240 then 3 else if b<245 then 4 else 0
def loOf (b:Nat):Nat:=if b=224 then 160 else if b=240 then 144 else 128
def hiOf (b:Nat):Nat:=if b=237 then 159 else if b=244 then 143 else 191
def good (b k c:Nat):Bool:=if k=1 then decide (loOf b≤c∧c≤hiOf b) else decide (128≤c∧c≤191)
theorem good_one (b c:Nat):good b 1 c=true ↔ loOf b≤c∧c≤hiOf b:=by simp [good]
theorem good_more {k:Nat} (b c:Nat) (h:k≠1):good b k c=true ↔ 128≤c∧c≤191:=by simp [good,h]
theorem lenOf_le (b : Nat) : lenOf b ≤ 4 := by unfold lenOf; repeat' split
                                               all_goals omega
def sz (f:Nat→Nat) (n:Nat):Nat→Nat→Nat
 | 0,k=>k
 | m+1,k=>if k<lenOf (f 0)∧k<n∧good (f 0) k (f k)=true then sz f n m (k+1) else k
def size (f:Nat→Nat) (n:Nat):Nat:=sz f n 3 1
def cd0 (b:Nat):Nat:=if lenOf b=2 then b % 32 else if lenOf b=3 then b % 16 else if lenOf b=4 then b % 8 else b
def codeTo (f:Nat→Nat):Nat→Nat
 | 0=>0
 | k+1=>if k=0 then cd0 (f 0) else codeTo f k*64+f k % 64
def code (f:Nat→Nat) (n:Nat):Nat:=if size f n=lenOf (f 0) then codeTo f (size f n) else 65533
theorem sz_ge (f:Nat→Nat) (n:Nat):∀ m k,k≤sz f n m k
 | 0,k=>Nat.le_refl _
 | m+1,k=>by
  unfold sz;split
  ·have:=sz_ge f n m (k+1);omega
  ·exact Nat.le_refl _
theorem sz_le (f:Nat→Nat) (n:Nat):∀ m k,k≤n→sz f n m k≤n
 | 0,k=>fun h=>h
 | m+1,k=>fun h=>by
  unfold sz;split
  ·rename_i h';exact sz_le f n m (k+1) (by omega)
  ·exact h
theorem size_ge (f:Nat→Nat) (n:Nat):1≤size f n:=sz_ge f n 3 1
theorem size_le (f:Nat→Nat) (n:Nat) (h:1≤n):size f n≤n:=sz_le f n 3 1 h
theorem sz_yes {f:Nat→Nat} {n k S:Nat} (h1:1≤k) (hL:k<lenOf (f 0)) (hn:k<n) (hg:good (f 0) k (f k)=true) (h:sz f n (4 - k) k=S):sz f n (4 - (k+1)) (k+1)=S:=by
 have:=lenOf_le (f 0)
 obtain ⟨m,hm⟩:∃ m,4 - k=m+1:=⟨4 - k - 1,by omega⟩
 rw [hm] at h
 unfold sz at h
 rw [if_pos ⟨hL,hn,hg⟩] at h
 rw [show 4 - (k+1)=m by omega];exact h
theorem sz_no {f:Nat→Nat} {n k S:Nat} (hk:¬ (k<lenOf (f 0)∧k<n∧good (f 0) k (f k)=true)) (h:sz f n (4 - k) k=S):S=k:=by
 cases hm:4 - k with
 | zero=>rw [hm] at h;exact h.symm
 | succ m=>rw [hm] at h;unfold sz at h;rw [if_neg hk] at h;exact h.symm
theorem codeTo_one (f:Nat→Nat):codeTo f 1=cd0 (f 0):=rfl
theorem codeTo_succ (f:Nat→Nat) {k:Nat} (h:1≤k):codeTo f (k+1)=codeTo f k*64+f k % 64:=by
 show (if k=0 then _ else _)=_
 rw [if_neg (by omega)]
theorem cd0_le (b:Nat):cd0 b≤b:=by
 unfold cd0;repeat' split
 all_goals omega
theorem codeTo_le (f:Nat→Nat) (h0:f 0<256) {k:Nat} (h:k≤4):codeTo f k≤67108863:=by
 have c:=cd0_le (f 0)
 have e1:=codeTo_one f
 have e2:codeTo f 2=codeTo f 1*64+f 1 % 64:=codeTo_succ f (k:=1) (by omega)
 have e3:codeTo f 3=codeTo f 2*64+f 2 % 64:=codeTo_succ f (k:=2) (by omega)
 have e4:codeTo f 4=codeTo f 3*64+f 3 % 64:=codeTo_succ f (k:=3) (by omega)
 have e0:codeTo f 0=0:=rfl
 obtain rfl | rfl | rfl | rfl | rfl:k=0∨k=1∨k=2∨k=3∨k=4:=by omega
 all_goals omega
theorem code_yes {f:Nat→Nat} {n:Nat} (h:size f n=lenOf (f 0)):code f n=codeTo f (lenOf (f 0)):=by
 unfold code;rw [if_pos h,h]
theorem code_no {f:Nat→Nat} {n:Nat} (h:size f n≠lenOf (f 0)):code f n=65533:=by
 unfold code;rw [if_neg h]
def cs (g:Nat→Nat) (n:Nat):Nat→Nat→List (Nat × Nat × Nat)
 | 0,_=>[]
 | m+1,i=>if i<n then (code (fun j=>g (i+j)) (n - i),i,i+size (fun j=>g (i+j)) (n - i)) :: cs g n m (i+size (fun j=>g (i+j)) (n - i)) else []
theorem cs_cons {g:Nat→Nat} {n m i:Nat} (h:i<n) (hm:n≤i+m):∃ m',n≤i+size (fun j=>g (i+j)) (n - i)+m' ∧
  cs g n m i=(code (fun j=>g (i+j)) (n - i),i,i+size (fun j=>g (i+j)) (n - i)) :: cs g n m' (i+size (fun j=>g (i+j)) (n - i)):=by
 obtain ⟨m',rfl⟩:∃ m',m=m'+1:=⟨m - 1,by omega⟩
 have:=size_ge (fun j=>g (i+j)) (n - i)
 exact ⟨m',by omega,by rw [cs,if_pos h]⟩
theorem cs_nil {g:Nat→Nat} {n m i:Nat} (h:¬ i<n):cs g n m i=[]:=by
 cases m with
 | zero=>rfl
 | succ m=>rw [cs,if_neg h]
theorem cs_length (g:Nat→Nat) (n:Nat):∀ m i,(cs g n m i).length≤n - i
 | 0,_=>Nat.zero_le _
 | m+1,i=>by
  rw [cs];split
  ·have:=cs_length g n m (i+size (fun j=>g (i+j)) (n - i))
   have:=size_ge (fun j=>g (i+j)) (n - i)
   simp only [List.length_cons];omega
  ·exact Nat.zero_le _
end Pl
end Go.Proofs.YtcmgclckknpecaaGreatDoor
namespace Go.Proofs.YtcmgclckknpecaaGreatDoor
open Go.RowKit
def ShapeOf (b L lo hi:Int):Prop:=L=Pl.lenOf b.toNat∧(2≤L→lo=Pl.loOf b.toNat∧hi=Pl.hiOf b.toNat)
set_option maxHeartbeats 1000000 in
theorem shapeOf_any (b:Int) (w:World) (h0:0≤b) (h1:b≤255) :
  Calls Tryz.prog 145 #[.int .u8 b] w fun e w'=>∃ L lo hi,e=.returned (.agg #[.int .i64 L,.int .u8 lo,.int .u8 hi])∧ShapeOf b L lo hi∧Below w.heap.size w w':=by
 go_enter Tryz.func145,Tryz.ntmps145
 go_wp2
 all_goals
  refine ⟨rfl,?_,?_,?_⟩
  rotate_left
  ·simp [results,Tryz.results145,go_sem];rfl
  ·refine ⟨_,_,_,rfl,?_,?_⟩
   rotate_left
   ·exact (Below.refl _ _).alloc (Nat.le_refl _) _
   ·go_light
    try have q1:=ne_of_beq_false ‹(b == 224)=false›
    try have q2:=ne_of_beq_false ‹(b == 237)=false›
    try have q3:=ne_of_beq_false ‹(b == 240)=false›
    try have q4:=ne_of_beq_false ‹(b == 244)=false›
    try have p1:=eq_of_beq ‹(b == 224)=true›
    try have p2:=eq_of_beq ‹(b == 237)=true›
    try have p3:=eq_of_beq ‹(b == 240)=true›
    try have p4:=eq_of_beq ‹(b == 244)=true›
    unfold ShapeOf Pl.lenOf Pl.loOf Pl.hiOf
    refine ⟨?_,fun _=>⟨?_,?_⟩⟩
    all_goals (repeat' split)
    all_goals omega
def Taken (lo hi k c:Int):Bool:=if k=1 then decide (lo≤c∧c≤hi) else decide (128≤c∧c≤191)
set_option maxHeartbeats 1000000 in
theorem takes_any (L lo hi k c:Int) (w:World) :
  Calls Tryz.prog 146 #[.agg #[.int .i64 L,.int .u8 lo,.int .u8 hi],.int .i64 k,.int .u8 c] w fun e w'=>e=.returned (.bool (Taken lo hi k c))∧w'=w.alloc (.cells #[.int .i64 L,.int .u8 lo,.int .u8 hi] 293):=by
 by_cases hk:k=1
 ·subst hk
  go_enter Tryz.func146,Tryz.ntmps146
  go_wp2
  ·go_ret
   refine ⟨?_,rfl⟩
   have:lo≤c:=by assumption
   simp [Taken,this]
  ·go_ret
   refine ⟨?_,rfl⟩
   have:c<lo:=by assumption
   simp [Taken]
   omega
 ·have hk':(k == 1)=false:=by simpa using hk
  go_enter Tryz.func146,Tryz.ntmps146
  go_wp2
  ·go_ret
   refine ⟨?_,rfl⟩
   have:128≤c:=by assumption
   simp [Taken,this,hk]
  ·go_ret
   refine ⟨?_,rfl⟩
   have:c<128:=by assumption
   simp [Taken,hk]
   omega
theorem num_any (n:Int) (w:World):Calls Tryz.prog 16 #[.int .i64 n] w fun e w'=>e=.returned (.int .i64 n)∧w'=w:=by
 go_enter Tryz.func16,Tryz.ntmps16
 go_wp2
 go_ret
 exact ⟨rfl,rfl⟩
end Go.Proofs.YtcmgclckknpecaaGreatDoor
namespace Go.Proofs.YtcmgclckknpecaaGreatDoor
namespace Pl
def wit (c a b:Nat):Bool:=decide (a≤c) && decide (c≤b)
def isLet (c:Nat):Bool:=if c=215∨c=247∨c=930 then false else wit c 65 90 || wit c 97 122 || wit c 192 255 || wit c 913 969 || wit c 1040 1103
def isDig (c:Nat):Bool:=wit c 48 57
def isSgn (c:Nat):Bool:=wit c 19968 40959
def isMrk (c:Nat):Bool:=wit c 768 879
def isBlk (c:Nat):Bool:=decide (c=9) || decide (c=10) || decide (c=32)
def isCap (c:Nat):Bool:=if c=215∨c=930 then false else wit c 65 90 || wit c 192 222 || wit c 913 937 || wit c 1040 1071
def sml (c:Nat):Nat:=if isCap c=true then c+32 else c
def gon (f:Nat→Nat) (n k:Nat):Bool :=
 if f k=39∨f k=8217 then isLet (f (k - 1)) && decide (k+1<n) && isLet (f (k+1))
 else if f k=46∨f k=44 then isDig (f (k - 1)) && decide (k+1<n) && isDig (f (k+1))
 else isLet (f k) || isDig (f k) || isMrk (f k)
def run (p:Nat→Bool) (n:Nat):Nat→Nat→Nat
 | 0,k=>k
 | m+1,k=>if k<n∧p k=true then run p n m (k+1) else k
def wsz (f:Nat→Nat) (n i:Nat):Nat :=
 if isSgn (f i)=true then run (fun k=>isMrk (f k)) n n (i+1) - i
 else if (isLet (f i) || isDig (f i))=true then run (gon f n) n n (i+1) - i
 else 0
theorem run_ge (p:Nat→Bool) (n:Nat):∀ m k,k≤run p n m k
 | 0,k=>Nat.le_refl _
 | m+1,k=>by
  unfold run;split
  ·have:=run_ge p n m (k+1);omega
  ·exact Nat.le_refl _
theorem run_le (p:Nat→Bool) (n:Nat):∀ m k,k≤n→run p n m k≤n
 | 0,k=>fun h=>h
 | m+1,k=>fun h=>by
  unfold run;split
  ·rename_i h';exact run_le p n m (k+1) (by omega)
  ·exact h
theorem run_yes {p:Nat→Bool} {n m k R:Nat} (h:k<n) (hp:p k=true) (hm:n≤k+m) (hr:run p n m k=R):∃ m',n≤k+1+m'∧run p n m' (k+1)=R:=by
 obtain ⟨m',rfl⟩:∃ m',m=m'+1:=⟨m - 1,by omega⟩
 refine ⟨m',by omega,?_⟩
 unfold run at hr;rw [if_pos ⟨h,hp⟩] at hr;exact hr
theorem run_no {p:Nat→Bool} {n m k R:Nat} (hk:¬ (k<n∧p k=true)) (hr:run p n m k=R):R=k:=by
 cases m with
 | zero=>exact hr.symm
 | succ m=>unfold run at hr;rw [if_neg hk] at hr;exact hr.symm
theorem wsz_le (f:Nat→Nat) (n i:Nat) (h:i<n):i+wsz f n i≤n:=by
 unfold wsz
 have a:=run_le (fun k=>isMrk (f k)) n n (i+1) (by omega)
 have b:=run_le (gon f n) n n (i+1) (by omega)
 split
 ·omega
 ·split <;> omega
end Pl
end Go.Proofs.YtcmgclckknpecaaGreatDoor
namespace Go.Proofs.YtcmgclckknpecaaGreatDoor
open Go.RowKit
def witI (c:Nat) (a b:Int):Bool:=Pl.wit c a.toNat b.toNat
theorem within_any (c:Nat) (ai bi:Int) (ha:0≤ai) (hb:0≤bi) (w:World):Calls Tryz.prog 294 #[.int .i64 (c:Int),.int .i64 ai,.int .i64 bi] w fun e w'=>e=.returned (.bool (witI c ai bi))∧w'=w:=by
 obtain ⟨a,rfl⟩:∃ a:Nat,ai=(a:Int):=⟨ai.toNat,by omega⟩
 obtain ⟨b,rfl⟩:∃ b:Nat,bi=(b:Int):=⟨bi.toNat,by omega⟩
 clear ha hb
 go_enter Tryz.func294,Tryz.ntmps294
 go_wp2
 ·rename_i h
  go_ret
  exact ⟨by simp [witI,Pl.wit,h],rfl⟩
 ·rename_i h
  go_ret
  exact ⟨by simp [witI,Pl.wit,h],rfl⟩
theorem isSign_any (c:Nat) (w:World):Calls Tryz.prog 298 #[.int .i64 (c:Int)] w fun e w'=>e=.returned (.bool (Pl.isSgn c))∧w'=w:=by
 go_enter Tryz.func298,Tryz.ntmps298
 go_wp2_with (go_at_call 294;refine (within_any c _ _ (by decide) (by decide) _).mono ?_;rintro e w' ⟨rfl,rfl⟩)
 go_ret
 exact ⟨rfl,rfl⟩
theorem isMark_any (c:Nat) (w:World):Calls Tryz.prog 299 #[.int .i64 (c:Int)] w fun e w'=>e=.returned (.bool (Pl.isMrk c))∧w'=w:=by
 go_enter Tryz.func299,Tryz.ntmps299
 go_wp2_with (go_at_call 294;refine (within_any c _ _ (by decide) (by decide) _).mono ?_;rintro e w' ⟨rfl,rfl⟩)
 go_ret
 exact ⟨rfl,rfl⟩
theorem isDigit_any (c:Nat) (w:World):Calls Tryz.prog 301 #[.int .i64 (c:Int)] w fun e w'=>e=.returned (.bool (Pl.isDig c))∧w'=w:=by
 go_enter Tryz.func301,Tryz.ntmps301
 go_wp2_with (go_at_call 294;refine (within_any c _ _ (by decide) (by decide) _).mono ?_;rintro e w' ⟨rfl,rfl⟩)
 go_ret
 exact ⟨rfl,rfl⟩
theorem ret_bool {a b:Bool} (h:a=b):Ending.returned (.bool a)=.returned (.bool b):=by rw [h]
theorem isLet_no {c:Nat} (h:((c:Int) == 215)=true∨((c:Int) == 247)=true∨((c:Int) == 930)=true):false=Pl.isLet c:=by
 have:c=215∨c=247∨c=930:=by simp at h;omega
 simp [Pl.isLet,this]
theorem isLet_yes {c:Nat} (h1:((c:Int) == 215)=false) (h2:((c:Int) == 247)=false) (h3:((c:Int) == 930)=false):Pl.isLet c=(witI c 65 90 || witI c 97 122 || witI c 192 255 || witI c 913 969 || witI c 1040 1103):=by
 have:¬ (c=215∨c=247∨c=930):=by simp at h1 h2 h3;omega
 rw [Pl.isLet,if_neg this];rfl
theorem isCap_no {c:Nat} (h:((c:Int) == 215)=true∨((c:Int) == 930)=true):false=Pl.isCap c:=by
 have:c=215∨c=930:=by simp at h;omega
 simp [Pl.isCap,this]
theorem isCap_yes {c:Nat} (h1:((c:Int) == 215)=false) (h3:((c:Int) == 930)=false):Pl.isCap c=(witI c 65 90 || witI c 192 222 || witI c 913 937 || witI c 1040 1071):=by
 have:¬ (c=215∨c=930):=by simp at h1 h3;omega
 rw [Pl.isCap,if_neg this];rfl
set_option maxHeartbeats 1000000 in
theorem isLetter_any (c:Nat) (w:World):Calls Tryz.prog 300 #[.int .i64 (c:Int)] w fun e w'=>e=.returned (.bool (Pl.isLet c))∧w'=w:=by
 go_enter Tryz.func300,Tryz.ntmps300
 go_wp2_with (go_at_call 294;refine (within_any c _ _ (by decide) (by decide) _).mono ?_;rintro e w' ⟨rfl,rfl⟩)
 all_goals go_ret
 all_goals refine ⟨ret_bool ?_,rfl⟩
 ·exact isLet_no (.inl ‹_›)
 ·exact isLet_no (.inr (.inl ‹_›))
 ·exact isLet_no (.inr (.inr ‹_›))
 all_goals
  rw [isLet_yes ‹_› ‹_› ‹_›]
  simp_all only [Bool.not_eq_true,Bool.false_or,Bool.true_or,Bool.or_true]
set_option maxHeartbeats 1000000 in
theorem isCapital_any (c:Nat) (w:World):Calls Tryz.prog 365 #[.int .i64 (c:Int)] w fun e w'=>e=.returned (.bool (Pl.isCap c))∧w'=w:=by
 go_enter Tryz.func365,Tryz.ntmps365
 go_wp2_with (go_at_call 294;refine (within_any c _ _ (by decide) (by decide) _).mono ?_;rintro e w' ⟨rfl,rfl⟩)
 all_goals go_ret
 all_goals refine ⟨ret_bool ?_,rfl⟩
 ·exact isCap_no (.inl ‹_›)
 ·exact isCap_no (.inr ‹_›)
 all_goals
  rw [isCap_yes ‹_› ‹_›]
  simp_all only [Bool.not_eq_true,Bool.false_or,Bool.true_or,Bool.or_true]
theorem smallForm_any (c:Nat) (hc:c≤4000000000) (w:World):Calls Tryz.prog 304 #[.int .i64 (c:Int)] w fun e w'=>e=.returned (.int .i64 ((Pl.sml c:Nat):Int))∧w'=w:=by
 go_enter Tryz.func304,Tryz.ntmps304
 go_wp2_with (go_at_call 365;refine (isCapital_any c _).mono ?_;rintro e w' ⟨rfl,rfl⟩)
 ·rename_i h
  go_ret
  exact ⟨by rw [Pl.sml,if_pos h];simp,rfl⟩
 ·rename_i h
  go_ret
  exact ⟨by rw [Pl.sml,h];rfl,rfl⟩
end Go.Proofs.YtcmgclckknpecaaGreatDoor
namespace Go.Proofs.YtcmgclckknpecaaGreatDoor
open Go.RowKit
def Pl.cdx (xs:List (Nat × Nat × Nat)) (k:Nat):Nat:=(xs[k]?.getD (0,0,0)).1
theorem Pl.cdx_eq {xs:List (Nat × Nat × Nat)} {k:Nat} (h:k<xs.length):Pl.cdx xs k=(xs[k]).1:=by simp [Pl.cdx,h]
structure Cr (g o:Nat) (xs:List (Nat × Nat × Nat)) (w:World):Prop where
 c:∀ i (h:i<xs.length),w.cell? ⟨g,o+i*3,none⟩=some (.int .i64 ((xs[i]).1:Int))∧w.cell? ⟨g,o+i*3+1,none⟩=some (.int .i64 ((xs[i]).2.1:Int))∧w.cell? ⟨g,o+i*3+2,none⟩=some (.int .i64 ((xs[i]).2.2:Int))
theorem Cr.code {g o:Nat} {xs:List (Nat × Nat × Nat)} {w:World} (h:Cr g o xs w) {k:Nat} (hk:k<xs.length):w.cell? ⟨g,o+k*3,none⟩=some (.int .i64 (Pl.cdx xs k:Int)):=by
 rw [Pl.cdx_eq hk];exact (h.c k hk).1
set_option maxHeartbeats 1000000 in
theorem between_let (g o cap:Nat) (xs:List (Nat × Nat × Nat)) (k:Nat) (w:World) (hC:Cr g o xs w) (hk1:1≤k) (hk:k<xs.length) (hl:xs.length≤268435456) :
  Calls Tryz.prog 364 #[.slice (some ⟨g,o,none⟩) xs.length cap,.int .i64 (k:Int),.func (.func 300) #[] #[]] w fun e w'=>e=.returned (.bool (Pl.isLet (Pl.cdx xs (k - 1)) && decide (k+1<xs.length) && Pl.isLet (Pl.cdx xs (k+1))))∧w'=w:=by
 have c0:=hC.code (k:=k - 1) (by omega)
 by_cases h1:k+1<xs.length
 ·have c1:=hC.code h1
  have h1':(k:Int)+1<(xs.length:Int):=by omega
  go_enter Tryz.func364,Tryz.ntmps364
  go_wp2_with (go_at_call 300;refine (isLetter_any _ _).mono ?_;rintro e w' ⟨rfl,rfl⟩)
  ·go_ret
   exact ⟨ret_bool (by simp_all),rfl⟩
  ·go_ret
   exact ⟨ret_bool (by simp_all),rfl⟩
 ·have h1':¬ (k:Int)+1<(xs.length:Int):=by omega
  go_enter Tryz.func364,Tryz.ntmps364
  go_wp2_with (go_at_call 300;refine (isLetter_any _ _).mono ?_;rintro e w' ⟨rfl,rfl⟩)
  ·go_ret
   exact ⟨ret_bool (by simp_all),rfl⟩
  ·go_ret
   exact ⟨ret_bool (by simp_all),rfl⟩
set_option maxHeartbeats 1000000 in
theorem between_dig (g o cap:Nat) (xs:List (Nat × Nat × Nat)) (k:Nat) (w:World) (hC:Cr g o xs w) (hk1:1≤k) (hk:k<xs.length) (hl:xs.length≤268435456) :
  Calls Tryz.prog 364 #[.slice (some ⟨g,o,none⟩) xs.length cap,.int .i64 (k:Int),.func (.func 301) #[] #[]] w fun e w'=>e=.returned (.bool (Pl.isDig (Pl.cdx xs (k - 1)) && decide (k+1<xs.length) && Pl.isDig (Pl.cdx xs (k+1))))∧w'=w:=by
 have c0:=hC.code (k:=k - 1) (by omega)
 by_cases h1:k+1<xs.length
 ·have c1:=hC.code h1
  have h1':(k:Int)+1<(xs.length:Int):=by omega
  go_enter Tryz.func364,Tryz.ntmps364
  go_wp2_with (go_at_call 301;refine (isDigit_any _ _).mono ?_;rintro e w' ⟨rfl,rfl⟩)
  ·go_ret
   exact ⟨ret_bool (by simp_all),rfl⟩
  ·go_ret
   exact ⟨ret_bool (by simp_all),rfl⟩
 ·have h1':¬ (k:Int)+1<(xs.length:Int):=by omega
  go_enter Tryz.func364,Tryz.ntmps364
  go_wp2_with (go_at_call 301;refine (isDigit_any _ _).mono ?_;rintro e w' ⟨rfl,rfl⟩)
  ·go_ret
   exact ⟨ret_bool (by simp_all),rfl⟩
  ·go_ret
   exact ⟨ret_bool (by simp_all),rfl⟩
set_option maxHeartbeats 1000000 in
theorem goesOn_any (g o cap:Nat) (xs:List (Nat × Nat × Nat)) (k:Nat) (w:World) (hC:Cr g o xs w) (hk1:1≤k) (hk:k<xs.length) (hl:xs.length≤268435456) :
  Calls Tryz.prog 302 #[.slice (some ⟨g,o,none⟩) xs.length cap,.int .i64 (k:Int)] w fun e w'=>e=.returned (.bool (Pl.gon (Pl.cdx xs) xs.length k))∧w'=w:=by
 have c0:=hC.code hk
 have HB1:Hid (∀ w,Cr g o xs w→Calls Tryz.prog 364 #[.slice (some ⟨g,o,none⟩) xs.length cap,.int .i64 (k:Int),.func (.func 300) #[] #[]] w fun e w'=>e=.returned (.bool (Pl.isLet (Pl.cdx xs (k - 1)) && decide (k+1<xs.length) && Pl.isLet (Pl.cdx xs (k+1))))∧w'=w):=fun w hC=>between_let g o cap xs k w hC hk1 hk hl
 have HB2:Hid (∀ w,Cr g o xs w→Calls Tryz.prog 364 #[.slice (some ⟨g,o,none⟩) xs.length cap,.int .i64 (k:Int),.func (.func 301) #[] #[]] w fun e w'=>e=.returned (.bool (Pl.isDig (Pl.cdx xs (k - 1)) && decide (k+1<xs.length) && Pl.isDig (Pl.cdx xs (k+1))))∧w'=w):=fun w hC=>between_dig g o cap xs k w hC hk1 hk hl
 have hkI:(k:Int)<(xs.length:Int):=by omega
 obtain ⟨c,hc⟩:∃ c,Pl.cdx xs k=c:=⟨_,rfl⟩
 rw [hc] at c0
 by_cases h1:c=39∨c=8217
 ·have e1:Pl.gon (Pl.cdx xs) xs.length k=(Pl.isLet (Pl.cdx xs (k - 1)) && decide (k+1<xs.length) && Pl.isLet (Pl.cdx xs (k+1))):=by rw [Pl.gon,hc,if_pos h1]
  rw [e1]
  clear e1 hc
  obtain ⟨B,hB⟩:∃ B,(Pl.isLet (Pl.cdx xs (k - 1)) && decide (k+1<xs.length) && Pl.isLet (Pl.cdx xs (k+1)))=B:=⟨_,rfl⟩
  rw [hB] at HB1 ⊢
  rcases h1 with rfl | rfl
  ·go_enter Tryz.func302,Tryz.ntmps302
   go_wp2_with (go_at_call 364;refine (HB1.out _ hC).mono ?_;rintro e w' ⟨rfl,rfl⟩)
   go_ret
   exact ⟨rfl,rfl⟩
  ·go_enter Tryz.func302,Tryz.ntmps302
   go_wp2_with (go_at_call 364;refine (HB1.out _ hC).mono ?_;rintro e w' ⟨rfl,rfl⟩)
   go_ret
   exact ⟨rfl,rfl⟩
 ·by_cases h2:c=46∨c=44
  ·have e1:Pl.gon (Pl.cdx xs) xs.length k=(Pl.isDig (Pl.cdx xs (k - 1)) && decide (k+1<xs.length) && Pl.isDig (Pl.cdx xs (k+1))):=by rw [Pl.gon,hc,if_neg h1,if_pos h2]
   rw [e1]
   clear e1 hc h1
   obtain ⟨B,hB⟩:∃ B,(Pl.isDig (Pl.cdx xs (k - 1)) && decide (k+1<xs.length) && Pl.isDig (Pl.cdx xs (k+1)))=B:=⟨_,rfl⟩
   rw [hB] at HB2 ⊢
   rcases h2 with rfl | rfl
   ·go_enter Tryz.func302,Tryz.ntmps302
    go_wp2_with (go_at_call 364;refine (HB2.out _ hC).mono ?_;rintro e w' ⟨rfl,rfl⟩)
    go_ret
    exact ⟨rfl,rfl⟩
   ·go_enter Tryz.func302,Tryz.ntmps302
    go_wp2_with (go_at_call 364;refine (HB2.out _ hC).mono ?_;rintro e w' ⟨rfl,rfl⟩)
    go_ret
    exact ⟨rfl,rfl⟩
  ·have e1:Pl.gon (Pl.cdx xs) xs.length k=(Pl.isLet c || Pl.isDig c || Pl.isMrk c):=by rw [Pl.gon,hc,if_neg h1,if_neg h2]
   rw [e1]
   have q1:((c:Int) == 39)=false:=by simp;omega
   have q2:((c:Int) == 8217)=false:=by simp;omega
   have q3:((c:Int) == 46)=false:=by simp;omega
   have q4:((c:Int) == 44)=false:=by simp;omega
   clear e1 hc h1 h2
   go_enter Tryz.func302,Tryz.ntmps302
   go_wp2_with (first
    | (go_at_call 300;refine (isLetter_any _ _).mono ?_;rintro e w' ⟨rfl,rfl⟩)
    | (go_at_call 301;refine (isDigit_any _ _).mono ?_;rintro e w' ⟨rfl,rfl⟩)
    | (go_at_call 299;refine (isMark_any _ _).mono ?_;rintro e w' ⟨rfl,rfl⟩))
   all_goals go_ret
   all_goals exact ⟨ret_bool (by simp_all),rfl⟩
end Go.Proofs.YtcmgclckknpecaaGreatDoor
namespace Go.Proofs.YtcmgclckknpecaaGreatDoor
open Go.RowKit
theorem ret_sub {i R S:Nat} (h:S=R - i) (hi:i≤R):Ending.returned (.int .i64 ((R:Int) - (i:Int)))=.returned (.int .i64 ((S:Nat):Int)):=by
 rw [h,Int.ofNat_sub hi]
set_option maxHeartbeats 1000000 in
theorem wordSize_sign (g o cap:Nat) (xs:List (Nat × Nat × Nat)) (i:Nat) (w:World) (hC:Cr g o xs w) (hi:i<xs.length) (hl:xs.length≤268435456) (c:Nat) (hc:Pl.cdx xs i=c) (h1:Pl.isSgn c=true) :
  Calls Tryz.prog 200 #[.slice (some ⟨g,o,none⟩) xs.length cap,.int .i64 (i:Int)] w fun e w'=>e=.returned (.int .i64 ((Pl.wsz (Pl.cdx xs) xs.length i:Nat):Int))∧w'=w:=by
 have c0:=hC.code hi
 have hiI:(i:Int)<(xs.length:Int):=by omega
 rw [hc] at c0
 obtain ⟨R,hR⟩:∃ R,Pl.run (fun k=>Pl.isMrk (Pl.cdx xs k)) xs.length xs.length (i+1)=R:=⟨_,rfl⟩
 have hRg:=Pl.run_ge (fun k=>Pl.isMrk (Pl.cdx xs k)) xs.length xs.length (i+1)
 rw [hR] at hRg
 have HW:Hid (Pl.wsz (Pl.cdx xs) xs.length i=R - i):=by show _=_;rw [Pl.wsz,hc,if_pos h1,hR]
 have HR:Hid (Pl.run (fun k=>Pl.isMrk (Pl.cdx xs k)) xs.length xs.length (i+1)=R):=hR
 clear hR hc
 go_enter Tryz.func200,Tryz.ntmps200
 go_wp2_with (go_at_call 298;refine (isSign_any _ _).mono ?_;rintro e w' ⟨rfl,rfl⟩)
 go_loopw [5] (fun t wr=>∃ k m:Nat,t=.int .i64 (k:Int)∧k≤xs.length∧xs.length≤k+m∧Hid (Pl.run (fun k=>Pl.isMrk (Pl.cdx xs k)) xs.length m k=R)∧wr=w') (fun t _=>xs.length - (intOf t).toNat)
 case atStart=>exact ⟨i+1,xs.length,by go_num,by omega,by omega,HR,rfl⟩
 case round =>
  obtain ⟨k,m,rfl,hk,hkm,HK,rfl⟩:=hrel
  by_cases hkl:k<xs.length
  ·have hkI:(k:Int)<(xs.length:Int):=by omega
   have ck:=hC.code hkl
   obtain ⟨d,hd⟩:∃ d,Pl.cdx xs k=d:=⟨_,rfl⟩
   rw [hd] at ck
   by_cases h2:Pl.isMrk d=true
   ·obtain ⟨m',hm',hr'⟩:=Pl.run_yes hkl (by rw [hd];exact h2) hkm HK.out
    have HK2:Hid (Pl.run (fun k=>Pl.isMrk (Pl.cdx xs k)) xs.length m' (k+1)=R):=hr'
    clear hr' hd HK
    go_wp2_with (go_at_call 299;refine (isMark_any _ _).mono ?_;rintro e w' ⟨rfl,rfl⟩)
    exact ⟨⟨k+1,m',by go_num,by omega,by omega,HK2,trivial⟩,by simp [intOf];omega⟩
   ·have hx:=Pl.run_no (fun h=>h2 (by rw [← hd];exact h.2)) HK.out
    have h2':Pl.isMrk d=false:=eq_false_of_ne_true h2
    clear hd HK h2
    go_wp2_with (go_at_call 299;refine (isMark_any _ _).mono ?_;rintro e w' ⟨rfl,rfl⟩)
    go_ret
    subst hx
    exact ⟨ret_sub HW.out (by omega),rfl⟩
  ·have hx:=Pl.run_no (fun h=>hkl h.1) HK.out
   have hkI:¬ (k:Int)<(xs.length:Int):=by omega
   clear HK
   go_wp2_with fail
   go_ret
   subst hx
   exact ⟨ret_sub HW.out (by omega),rfl⟩
set_option maxHeartbeats 1000000 in
theorem wordSize_let (g o cap:Nat) (xs:List (Nat × Nat × Nat)) (i:Nat) (w:World) (hC:Cr g o xs w) (hi:i<xs.length) (hl:xs.length≤268435456) (c:Nat) (hc:Pl.cdx xs i=c) (h1:Pl.isSgn c=false) (h2:(Pl.isLet c || Pl.isDig c)=true) :
  Calls Tryz.prog 200 #[.slice (some ⟨g,o,none⟩) xs.length cap,.int .i64 (i:Int)] w fun e w'=>e=.returned (.int .i64 ((Pl.wsz (Pl.cdx xs) xs.length i:Nat):Int))∧w'=w:=by
 have c0:=hC.code hi
 have hiI:(i:Int)<(xs.length:Int):=by omega
 rw [hc] at c0
 obtain ⟨R,hR⟩:∃ R,Pl.run (Pl.gon (Pl.cdx xs) xs.length) xs.length xs.length (i+1)=R:=⟨_,rfl⟩
 have hRg:=Pl.run_ge (Pl.gon (Pl.cdx xs) xs.length) xs.length xs.length (i+1)
 rw [hR] at hRg
 have HW:Hid (Pl.wsz (Pl.cdx xs) xs.length i=R - i):=by show _=_;rw [Pl.wsz,hc,h1,if_neg (by simp),if_pos h2,hR]
 have HR:Hid (Pl.run (Pl.gon (Pl.cdx xs) xs.length) xs.length xs.length (i+1)=R):=hR
 clear hR hc
 go_enter Tryz.func200,Tryz.ntmps200
 go_wp2_with (first
  | (go_at_call 298;refine (isSign_any _ _).mono ?_;rintro e w' ⟨rfl,rfl⟩)
  | (go_at_call 300;refine (isLetter_any _ _).mono ?_;rintro e w' ⟨rfl,rfl⟩)
  | (go_at_call 301;refine (isDigit_any _ _).mono ?_;rintro e w' ⟨rfl,rfl⟩))
 ·go_loopw [5] (fun t wr=>∃ k m:Nat,t=.int .i64 (k:Int)∧k≤xs.length∧1≤k∧xs.length≤k+m∧Hid (Pl.run (Pl.gon (Pl.cdx xs) xs.length) xs.length m k=R)∧wr=w') (fun t _=>xs.length - (intOf t).toNat)
  case atStart=>exact ⟨i+1,xs.length,by go_num,by omega,by omega,by omega,HR,rfl⟩
  case round =>
   obtain ⟨k,m,rfl,hk,hk1,hkm,HK,rfl⟩:=hrel
   by_cases hkl:k<xs.length
   ·have hkI:(k:Int)<(xs.length:Int):=by omega
    have hgo:=fun w hC=>goesOn_any g o cap xs k w hC hk1 hkl hl
    obtain ⟨d,hd⟩:∃ d,Pl.gon (Pl.cdx xs) xs.length k=d:=⟨_,rfl⟩
    rw [hd] at hgo
    have HGO:Hid (∀ w,Cr g o xs w→Calls Tryz.prog 302 #[.slice (some ⟨g,o,none⟩) xs.length cap,.int .i64 (k:Int)] w fun e w'=>e=.returned (.bool d)∧w'=w):=hgo
    clear hgo
    cases d with
    | true =>
     obtain ⟨m',hm',hr'⟩:=Pl.run_yes hkl hd hkm HK.out
     have HK2:Hid (Pl.run (Pl.gon (Pl.cdx xs) xs.length) xs.length m' (k+1)=R):=hr'
     clear hr' hd HK
     go_wp2_with (go_at_call 302;refine (HGO.out _ hC).mono ?_;rintro e w' ⟨rfl,rfl⟩)
     exact ⟨⟨k+1,m',by go_num,by omega,by omega,by omega,HK2,trivial⟩,by simp [intOf];omega⟩
    | false =>
     have hx:=Pl.run_no (fun h=>absurd (hd.symm.trans h.2) (by simp)) HK.out
     clear hd HK
     go_wp2_with (go_at_call 302;refine (HGO.out _ hC).mono ?_;rintro e w' ⟨rfl,rfl⟩)
     go_ret
     subst hx
     exact ⟨ret_sub HW.out (by omega),rfl⟩
   ·have hx:=Pl.run_no (fun h=>hkl h.1) HK.out
    have hkI:¬ (k:Int)<(xs.length:Int):=by omega
    clear HK
    go_wp2_with fail
    go_ret
    subst hx
    exact ⟨ret_sub HW.out (by omega),rfl⟩
 ·rename_i hdg
  rw [hdg]
  go_loopw [5] (fun t wr=>∃ k m:Nat,t=.int .i64 (k:Int)∧k≤xs.length∧1≤k∧xs.length≤k+m∧Hid (Pl.run (Pl.gon (Pl.cdx xs) xs.length) xs.length m k=R)∧wr=w') (fun t _=>xs.length - (intOf t).toNat)
  case atStart=>exact ⟨i+1,xs.length,by go_num,by omega,by omega,by omega,HR,rfl⟩
  case round =>
   obtain ⟨k,m,rfl,hk,hk1,hkm,HK,rfl⟩:=hrel
   by_cases hkl:k<xs.length
   ·have hkI:(k:Int)<(xs.length:Int):=by omega
    have hgo:=fun w hC=>goesOn_any g o cap xs k w hC hk1 hkl hl
    obtain ⟨d,hd⟩:∃ d,Pl.gon (Pl.cdx xs) xs.length k=d:=⟨_,rfl⟩
    rw [hd] at hgo
    have HGO:Hid (∀ w,Cr g o xs w→Calls Tryz.prog 302 #[.slice (some ⟨g,o,none⟩) xs.length cap,.int .i64 (k:Int)] w fun e w'=>e=.returned (.bool d)∧w'=w):=hgo
    clear hgo
    cases d with
    | true =>
     obtain ⟨m',hm',hr'⟩:=Pl.run_yes hkl hd hkm HK.out
     have HK2:Hid (Pl.run (Pl.gon (Pl.cdx xs) xs.length) xs.length m' (k+1)=R):=hr'
     clear hr' hd HK
     go_wp2_with (go_at_call 302;refine (HGO.out _ hC).mono ?_;rintro e w' ⟨rfl,rfl⟩)
     exact ⟨⟨k+1,m',by go_num,by omega,by omega,by omega,HK2,trivial⟩,by simp [intOf];omega⟩
    | false =>
     have hx:=Pl.run_no (fun h=>absurd (hd.symm.trans h.2) (by simp)) HK.out
     clear hd HK
     go_wp2_with (go_at_call 302;refine (HGO.out _ hC).mono ?_;rintro e w' ⟨rfl,rfl⟩)
     go_ret
     subst hx
     exact ⟨ret_sub HW.out (by omega),rfl⟩
   ·have hx:=Pl.run_no (fun h=>hkl h.1) HK.out
    have hkI:¬ (k:Int)<(xs.length:Int):=by omega
    clear HK
    go_wp2_with fail
    go_ret
    subst hx
    exact ⟨ret_sub HW.out (by omega),rfl⟩
 ·exfalso
  simp_all
set_option maxHeartbeats 1000000 in
theorem wordSize_no (g o cap:Nat) (xs:List (Nat × Nat × Nat)) (i:Nat) (w:World) (hC:Cr g o xs w) (hi:i<xs.length) (_hl:xs.length≤268435456) (c:Nat) (hc:Pl.cdx xs i=c) (h1:Pl.isSgn c=false) (h2:Pl.isLet c=false) (h3:Pl.isDig c=false) :
  Calls Tryz.prog 200 #[.slice (some ⟨g,o,none⟩) xs.length cap,.int .i64 (i:Int)] w fun e w'=>e=.returned (.int .i64 ((Pl.wsz (Pl.cdx xs) xs.length i:Nat):Int))∧w'=w:=by
 have c0:=hC.code hi
 have hiI:(i:Int)<(xs.length:Int):=by omega
 rw [hc] at c0
 have HW:Hid (Pl.wsz (Pl.cdx xs) xs.length i=0):=by show _=_;simp [Pl.wsz,hc,h1,h2,h3]
 clear hc
 go_enter Tryz.func200,Tryz.ntmps200
 go_wp2_with (first
  | (go_at_call 298;refine (isSign_any _ _).mono ?_;rintro e w' ⟨rfl,rfl⟩)
  | (go_at_call 300;refine (isLetter_any _ _).mono ?_;rintro e w' ⟨rfl,rfl⟩)
  | (go_at_call 301;refine (isDigit_any _ _).mono ?_;rintro e w' ⟨rfl,rfl⟩))
 go_ret
 exact ⟨by rw [HW.out];rfl,rfl⟩
theorem wordSize_any (g o cap:Nat) (xs:List (Nat × Nat × Nat)) (i:Nat) (w:World) (hC:Cr g o xs w) (hi:i<xs.length) (hl:xs.length≤268435456) :
  Calls Tryz.prog 200 #[.slice (some ⟨g,o,none⟩) xs.length cap,.int .i64 (i:Int)] w fun e w'=>e=.returned (.int .i64 ((Pl.wsz (Pl.cdx xs) xs.length i:Nat):Int))∧w'=w:=by
 by_cases h1:Pl.isSgn (Pl.cdx xs i)=true
 ·exact wordSize_sign g o cap xs i w hC hi hl _ rfl h1
 ·have h1':=eq_false_of_ne_true h1
  by_cases h2:(Pl.isLet (Pl.cdx xs i) || Pl.isDig (Pl.cdx xs i))=true
  ·exact wordSize_let g o cap xs i w hC hi hl _ rfl h1' h2
  ·have h2':Pl.isLet (Pl.cdx xs i)=false∧Pl.isDig (Pl.cdx xs i)=false:=by simpa using h2
   exact wordSize_no g o cap xs i w hC hi hl _ rfl h1' h2'.1 h2'.2
end Go.Proofs.YtcmgclckknpecaaGreatDoor
