import Derived.Test.YtcmgclckknpecaaGreatDoorProg
import Derived.Tactics
import Derived.Tactics2
import Derived.WalkKit
import Derived.Defers
import Derived.Laws.Pointers
import Derived.Laws.LoneSync
import Derived.Laws.NewBlocks
import Derived.RegionTactic
import Derived.RegionCalls
import Derived.Shelf.Strings.BuilderRune
import Derived.Shelf.Strings.BuilderK
import Derived.Test.YtcmgclckknpecaaGreatDoorKab
namespace Go.Proofs.YtcmgclckknpecaaGreatDoor
open Go.RowKit
theorem sy_disable (w:World):(callFunc 239 #[]).run Tryz.prog w=.ok (.value (.tuple #[])) w:=run_call_mark0 Tryz.func239 (by kernel_rfl) (by kernel_rfl) (by kernel_rfl) .disable (by kernel_rfl) w
theorem sy_enable (w:World):(callFunc 241 #[]).run Tryz.prog w=.ok (.value (.tuple #[])) w:=run_call_mark0 Tryz.func241 (by kernel_rfl) (by kernel_rfl) (by kernel_rfl) .enable (by kernel_rfl) w
theorem sy_acquire (a:Addr) (w:World):(callFunc 242 #[.pointer (some a)]).run Tryz.prog w=.ok (.value (.tuple #[])) w:=run_call_marked Tryz.func242 (by kernel_rfl) (by kernel_rfl) (by kernel_rfl) .acquire (by kernel_rfl) a w
theorem sy_releaseMerge (a:Addr) (w:World):(callFunc 325 #[.pointer (some a)]).run Tryz.prog w=.ok (.value (.tuple #[])) w:=run_call_marked Tryz.func325 (by kernel_rfl) (by kernel_rfl) (by kernel_rfl) .releaseMerge (by kernel_rfl) a w
theorem store_deferred (a:Addr) (x:Value) (u:FrameMode) (w:World) (hc:w.cell? a=some x) (hz:w.frozen? a=false) :
  CallsD Tryz.prog 194 #[.pointer (some a),.bool true] u w fun e u' w'=>u'=u∧(e=.returned (.tuple #[])∧w'=w.drew.setCell a (.int .u32 1)):=by
 have hc':w.drew.cell? a=some x:=by go_simp
 have hz':w.drew.frozen? a=false:=by go_simp
 have hst:=run_call_store (P:=Tryz.prog) Tryz.func290 (by kernel_rfl) (by kernel_rfl) (by kernel_rfl) (by kernel_rfl) (k:=.u32) (y:=1) hc' hz'
 go_enter_d Tryz.func194,Tryz.ntmps194
 go_wp2
 go_region_calls
 all_goals (go_end0;exact ⟨rfl,rfl⟩)
set_option maxRecDepth 100000 in
theorem unlock_deferred (a:Addr) (u:FrameMode) (w:World) (hc:w.cell? a=some (.int .i32 1)) (hz:w.frozen? a=false) :
  CallsD Tryz.prog 193 #[.pointer (some a)] u w fun e u' w'=>u'=u∧(e=.returned (.tuple #[])∧w'=w.setCell a (.int .i32 0)):=by
 have hd:=sy_disable
 have he:=sy_enable
 have hr:=sy_releaseMerge
 have hadd:=run_call_add (P:=Tryz.prog) Tryz.func361 (by kernel_rfl) (by kernel_rfl) (by kernel_rfl) .i32 (by kernel_rfl) (y:=-1) (s:=0) hc hz (by simp [go_sem];rfl)
 have hcv:=run_convert_to_unsafe (P:=Tryz.prog) (src:=476) (dst:=345) Tryz.underlying476 Tryz.underlying345 (by kernel_rfl) hc
 go_enter_d Tryz.func193,Tryz.ntmps193
 go_wp2
 go_end0
 go_wp2
 go_end0
 exact ⟨rfl,rfl⟩
set_option maxRecDepth 100000 in
theorem lock_free (a:Addr) (w:World) (hc:w.cell? a=some (.int .i32 0)) (hz:w.frozen? a=false) :
  Calls Tryz.prog 192 #[.pointer (some a)] w fun e w'=>e=.returned (.tuple #[])∧w'=w.setCell a (.int .i32 1):=by
 have hd:=sy_disable
 have he:=sy_enable
 have ha:=sy_acquire
 have hcas:=run_call_cas_hit (P:=Tryz.prog) Tryz.func359 (by kernel_rfl) (by kernel_rfl) (by kernel_rfl) .i32 (by kernel_rfl) (y:=1) hc hz
 have hc':(w.setCell a (.int .i32 1)).cell? a=some (.int .i32 1):=World.cell?_setCell_same w a _ hc
 have hcv:=run_convert_to_unsafe (P:=Tryz.prog) (src:=476) (dst:=345) Tryz.underlying476 Tryz.underlying345 (by kernel_rfl) hc'
 go_enter Tryz.func192,Tryz.ntmps192
 go_wp2
 first | go_end0 | (simp only [Exit.inBlock,Exit.then];refine bodyPost_ret (results_none rfl _ _ _) rfl ?_) | refine bodyPost_ret (results_none rfl _ _ _) rfl ?_
 go_wp2
 go_end0
 exact ⟨rfl,rfl⟩
end Go.Proofs.YtcmgclckknpecaaGreatDoor
namespace Go.Proofs.YtcmgclckknpecaaGreatDoor
open Go.RowKit Go.Shelf
def ren72:Ren:=⟨fun | 168=>219 | 169=>59 | 240=>116 | 242=>312 | 276=>174 | 278=>367 | n=>n,fun | 37=>164 | 46=>344 | 51=>104 | 70=>163 | 72=>166 | 75=>169 | 80=>78 | 127=>263 | 164=>345 | n=>n,fun n=>n⟩
theorem lays168:Lays.n168 Tryz.prog ren72 :=
 {mixed:=by kernel_rfl,f168:=by kernel_rfl,f240:=by kernel_rfl,f242:=by kernel_rfl,f276:=by kernel_rfl,f278:=by kernel_rfl,
  t0:=by kernel_rfl,a0:=fun _=>by kernel_rfl,z0:=fun _=>by kernel_rfl,v0:=fun _=>by kernel_rfl,
  t3:=by kernel_rfl,a3:=fun _=>by kernel_rfl,z3:=fun _=>by kernel_rfl,v3:=fun _=>by kernel_rfl,
  t4:=by kernel_rfl,a4:=fun _=>by kernel_rfl,z4:=fun _=>by kernel_rfl,v4:=fun _=>by kernel_rfl,
  t5:=by kernel_rfl,a5:=fun _=>by kernel_rfl,z5:=fun _=>by kernel_rfl,v5:=fun _=>by kernel_rfl,
  t9:=by kernel_rfl,a9:=fun _=>by kernel_rfl,z9:=fun _=>by kernel_rfl,v9:=fun _=>by kernel_rfl,
  t20:=by kernel_rfl,a20:=fun _=>by kernel_rfl,z20:=fun _=>by kernel_rfl,v20:=fun _=>by kernel_rfl,
  t21:=by kernel_rfl,a21:=fun _=>by kernel_rfl,z21:=fun _=>by kernel_rfl,v21:=fun _=>by kernel_rfl,
  t37:=by kernel_rfl,a37:=fun _=>by kernel_rfl,z37:=fun _=>by kernel_rfl,v37:=fun _=>by kernel_rfl,
  t46:=by kernel_rfl,a46:=fun _=>by kernel_rfl,z46:=fun _=>by kernel_rfl,v46:=fun _=>by kernel_rfl,
  t51:=by kernel_rfl,a51:=fun _=>by kernel_rfl,z51:=fun _=>by kernel_rfl,v51:=fun _=>by kernel_rfl,
  t70:=by kernel_rfl,a70:=fun _=>by kernel_rfl,z70:=fun _=>by kernel_rfl,v70:=fun _=>by kernel_rfl,
  t72:=by kernel_rfl,a72:=fun _=>by kernel_rfl,z72:=fun _=>by kernel_rfl,v72:=fun _=>by kernel_rfl,
  t75:=by kernel_rfl,a75:=fun _=>by kernel_rfl,z75:=fun _=>by kernel_rfl,v75:=fun _=>by kernel_rfl,
  t164:=by kernel_rfl,a164:=fun _=>by kernel_rfl,z164:=fun _=>by kernel_rfl,v164:=fun _=>by kernel_rfl }
theorem lays169:Lays.n169 Tryz.prog ren72 :=
 {mixed:=by kernel_rfl,f169:=by kernel_rfl,
  t0:=by kernel_rfl,a0:=fun _=>by kernel_rfl,z0:=fun _=>by kernel_rfl,v0:=fun _=>by kernel_rfl,
  t3:=by kernel_rfl,a3:=fun _=>by kernel_rfl,z3:=fun _=>by kernel_rfl,v3:=fun _=>by kernel_rfl,
  t9:=by kernel_rfl,a9:=fun _=>by kernel_rfl,z9:=fun _=>by kernel_rfl,v9:=fun _=>by kernel_rfl,
  t37:=by kernel_rfl,a37:=fun _=>by kernel_rfl,z37:=fun _=>by kernel_rfl,v37:=fun _=>by kernel_rfl,
  t70:=by kernel_rfl,a70:=fun _=>by kernel_rfl,z70:=fun _=>by kernel_rfl,v70:=fun _=>by kernel_rfl,
  t72:=by kernel_rfl,a72:=fun _=>by kernel_rfl,z72:=fun _=>by kernel_rfl,v72:=fun _=>by kernel_rfl,
  t127:=by kernel_rfl,a127:=fun _=>by kernel_rfl,z127:=fun _=>by kernel_rfl,v127:=fun _=>by kernel_rfl }
theorem extra72:Builder.Extra Tryz.prog ren72 :=
 {sizeBuilder:=by kernel_rfl,liesBuilder:=by kernel_rfl,t5:=by kernel_rfl,a5:=fun _=>by kernel_rfl,z5:=fun _=>by kernel_rfl,v5:=fun _=>by kernel_rfl,infoByte:=by kernel_rfl,cellsByte:=by kernel_rfl,sizeByte:=by kernel_rfl,neB5:=by decide }
theorem writeRune_any (B b:Nat) (bs:List Value) (r:Int) (hr0:-2147483648≤r) (hr1:r≤2147483647) (w:World) (h:Lib.IsBuilderF 166 5 B b bs w) (hlen:bs.length+4≤140737488355328) (hBw:B≤w.heap.size) :
  Calls Tryz.prog 219 #[.pointer (some ⟨b,0,none⟩),.int .i32 r] w fun e w'=>e=.returned (.tuple #[.int .i64 (Lib.runeCells r).length,.nilIface])∧(Lib.BuilderAtF 166 5 B b (.pointer (some ⟨b,0,none⟩)) (bs++Lib.runeCells r) w'∧Below B w w'∧Lib.OthersKept 5 (some b) w w') :=
 Any.Builder_WriteRune_k lays168 extra72 B b bs r hr0 hr1 w h hlen hBw
theorem string_any (B b:Nat) (l:List UInt8) (w:World) (h:Lib.IsBuilderF 166 5 B b (Lib.byteCells l) w) (hBw:B≤w.heap.size) :
  Calls Tryz.prog 59 #[.pointer (some ⟨b,0,none⟩)] w fun e w'=>e=.returned (.string ⟨l.toArray⟩)∧(Lib.IsBuilderF 166 5 B b (Lib.byteCells l) w'∧Below B w w'∧Lib.OthersKept 5 (some b) w w') :=
 Any.Builder_String_any_k lays169 extra72 B b l w h hBw
end Go.Proofs.YtcmgclckknpecaaGreatDoor
namespace Go.Proofs.YtcmgclckknpecaaGreatDoor
namespace Pl
def wit (c a b:Nat):Bool:=decide (a≤c) && decide (c≤b)
def isLet (c:Nat):Bool:=if c=215∨c=247∨c=930 then false else wit c 65 90 || wit c 97 122 || wit c 192 255 || wit c 913 969 || wit c 1040 1103
def isDig (c:Nat):Bool:=wit c 48 57
def isSgn (c:Nat):Bool:=wit c 19968 40959
def isMrk (c:Nat):Bool:=wit c 768 879
def isBlk (c:Nat):Bool:=decide (c=9) || decide (c=10) || decide (c=32)
def isCap (c:Nat):Bool:=if c=215∨c=930 then false else wit c 65 90 || wit c 192 222 || wit c 913 937 || wit c 1040 1071
def sml (c:Nat):Nat:=if isCap c=true then c+32 else c
def gon (f:Nat→Nat) (n k:Nat):Bool :=
 if f k=39∨f k=8217 then isLet (f (k - 1)) && decide (k+1<n) && isLet (f (k+1))
 else if f k=46∨f k=44 then isDig (f (k - 1)) && decide (k+1<n) && isDig (f (k+1))
 else isLet (f k) || isDig (f k) || isMrk (f k)
def run (p:Nat→Bool) (n:Nat):Nat→Nat→Nat
 | 0,k=>k
 | m+1,k=>if k<n∧p k=true then run p n m (k+1) else k
def wsz (f:Nat→Nat) (n i:Nat):Nat :=
 if isSgn (f i)=true then run (fun k=>isMrk (f k)) n n (i+1) - i
 else if (isLet (f i) || isDig (f i))=true then run (gon f n) n n (i+1) - i
 else 0
theorem run_ge (p:Nat→Bool) (n:Nat):∀ m k,k≤run p n m k
 | 0,k=>Nat.le_refl _
 | m+1,k=>by
  unfold run;split
  ·have:=run_ge p n m (k+1);omega
  ·exact Nat.le_refl _
theorem run_le (p:Nat→Bool) (n:Nat):∀ m k,k≤n→run p n m k≤n
 | 0,k=>fun h=>h
 | m+1,k=>fun h=>by
  unfold run;split
  ·rename_i h';exact run_le p n m (k+1) (by omega)
  ·exact h
theorem run_yes {p:Nat→Bool} {n m k R:Nat} (h:k<n) (hp:p k=true) (hm:n≤k+m) (hr:run p n m k=R):∃ m',n≤k+1+m'∧run p n m' (k+1)=R:=by
 obtain ⟨m',rfl⟩:∃ m',m=m'+1:=⟨m - 1,by omega⟩
 refine ⟨m',by omega,?_⟩
 unfold run at hr;rw [if_pos ⟨h,hp⟩] at hr;exact hr
theorem run_no {p:Nat→Bool} {n m k R:Nat} (hk:¬ (k<n∧p k=true)) (hr:run p n m k=R):R=k:=by
 cases m with
 | zero=>exact hr.symm
 | succ m=>unfold run at hr;rw [if_neg hk] at hr;exact hr.symm
theorem wsz_le (f:Nat→Nat) (n i:Nat) (h:i<n):i+wsz f n i≤n:=by
 unfold wsz
 have a:=run_le (fun k=>isMrk (f k)) n n (i+1) (by omega)
 have b:=run_le (gon f n) n n (i+1) (by omega)
 split
 ·omega
 ·split <;> omega
end Pl
end Go.Proofs.YtcmgclckknpecaaGreatDoor
namespace Go.Proofs.YtcmgclckknpecaaGreatDoor
open Go.RowKit
def witI (c:Nat) (a b:Int):Bool:=Pl.wit c a.toNat b.toNat
theorem within_any (c:Nat) (ai bi:Int) (ha:0≤ai) (hb:0≤bi) (w:World):Calls Tryz.prog 294 #[.int .i64 (c:Int),.int .i64 ai,.int .i64 bi] w fun e w'=>e=.returned (.bool (witI c ai bi))∧w'=w:=by
 obtain ⟨a,rfl⟩:∃ a:Nat,ai=(a:Int):=⟨ai.toNat,by omega⟩
 obtain ⟨b,rfl⟩:∃ b:Nat,bi=(b:Int):=⟨bi.toNat,by omega⟩
 clear ha hb
 go_enter Tryz.func294,Tryz.ntmps294
 go_wp2
 ·rename_i h
  go_ret
  exact ⟨by simp [witI,Pl.wit,h],rfl⟩
 ·rename_i h
  go_ret
  exact ⟨by simp [witI,Pl.wit,h],rfl⟩
theorem isSign_any (c:Nat) (w:World):Calls Tryz.prog 298 #[.int .i64 (c:Int)] w fun e w'=>e=.returned (.bool (Pl.isSgn c))∧w'=w:=by
 go_enter Tryz.func298,Tryz.ntmps298
 go_wp2_with (go_at_call 294;refine (within_any c _ _ (by decide) (by decide) _).mono ?_;rintro e w' ⟨rfl,rfl⟩)
 go_ret
 exact ⟨rfl,rfl⟩
theorem isMark_any (c:Nat) (w:World):Calls Tryz.prog 299 #[.int .i64 (c:Int)] w fun e w'=>e=.returned (.bool (Pl.isMrk c))∧w'=w:=by
 go_enter Tryz.func299,Tryz.ntmps299
 go_wp2_with (go_at_call 294;refine (within_any c _ _ (by decide) (by decide) _).mono ?_;rintro e w' ⟨rfl,rfl⟩)
 go_ret
 exact ⟨rfl,rfl⟩
theorem isDigit_any (c:Nat) (w:World):Calls Tryz.prog 301 #[.int .i64 (c:Int)] w fun e w'=>e=.returned (.bool (Pl.isDig c))∧w'=w:=by
 go_enter Tryz.func301,Tryz.ntmps301
 go_wp2_with (go_at_call 294;refine (within_any c _ _ (by decide) (by decide) _).mono ?_;rintro e w' ⟨rfl,rfl⟩)
 go_ret
 exact ⟨rfl,rfl⟩
theorem ret_bool {a b:Bool} (h:a=b):Ending.returned (.bool a)=.returned (.bool b):=by rw [h]
theorem isLet_no {c:Nat} (h:((c:Int) == 215)=true∨((c:Int) == 247)=true∨((c:Int) == 930)=true):false=Pl.isLet c:=by
 have:c=215∨c=247∨c=930:=by simp at h;omega
 simp [Pl.isLet,this]
theorem isLet_yes {c:Nat} (h1:((c:Int) == 215)=false) (h2:((c:Int) == 247)=false) (h3:((c:Int) == 930)=false):Pl.isLet c=(witI c 65 90 || witI c 97 122 || witI c 192 255 || witI c 913 969 || witI c 1040 1103):=by
 have:¬ (c=215∨c=247∨c=930):=by simp at h1 h2 h3;omega
 rw [Pl.isLet,if_neg this];rfl
theorem isCap_no {c:Nat} (h:((c:Int) == 215)=true∨((c:Int) == 930)=true):false=Pl.isCap c:=by
 have:c=215∨c=930:=by simp at h;omega
 simp [Pl.isCap,this]
theorem isCap_yes {c:Nat} (h1:((c:Int) == 215)=false) (h3:((c:Int) == 930)=false):Pl.isCap c=(witI c 65 90 || witI c 192 222 || witI c 913 937 || witI c 1040 1071):=by
 have:¬ (c=215∨c=930):=by simp at h1 h3;omega
 rw [Pl.isCap,if_neg this];rfl
set_option maxHeartbeats 1000000 in
theorem isLetter_any (c:Nat) (w:World):Calls Tryz.prog 300 #[.int .i64 (c:Int)] w fun e w'=>e=.returned (.bool (Pl.isLet c))∧w'=w:=by
 go_enter Tryz.func300,Tryz.ntmps300
 go_wp2_with (go_at_call 294;refine (within_any c _ _ (by decide) (by decide) _).mono ?_;rintro e w' ⟨rfl,rfl⟩)
 all_goals go_ret
 all_goals refine ⟨ret_bool ?_,rfl⟩
 ·exact isLet_no (.inl ‹_›)
 ·exact isLet_no (.inr (.inl ‹_›))
 ·exact isLet_no (.inr (.inr ‹_›))
 all_goals
  rw [isLet_yes ‹_› ‹_› ‹_›]
  simp_all only [Bool.not_eq_true,Bool.false_or,Bool.true_or,Bool.or_true]
set_option maxHeartbeats 1000000 in
theorem isCapital_any (c:Nat) (w:World):Calls Tryz.prog 365 #[.int .i64 (c:Int)] w fun e w'=>e=.returned (.bool (Pl.isCap c))∧w'=w:=by
 go_enter Tryz.func365,Tryz.ntmps365
 go_wp2_with (go_at_call 294;refine (within_any c _ _ (by decide) (by decide) _).mono ?_;rintro e w' ⟨rfl,rfl⟩)
 all_goals go_ret
 all_goals refine ⟨ret_bool ?_,rfl⟩
 ·exact isCap_no (.inl ‹_›)
 ·exact isCap_no (.inr ‹_›)
 all_goals
  rw [isCap_yes ‹_› ‹_›]
  simp_all only [Bool.not_eq_true,Bool.false_or,Bool.true_or,Bool.or_true]
theorem smallForm_any (c:Nat) (hc:c≤4000000000) (w:World):Calls Tryz.prog 304 #[.int .i64 (c:Int)] w fun e w'=>e=.returned (.int .i64 ((Pl.sml c:Nat):Int))∧w'=w:=by
 go_enter Tryz.func304,Tryz.ntmps304
 go_wp2_with (go_at_call 365;refine (isCapital_any c _).mono ?_;rintro e w' ⟨rfl,rfl⟩)
 ·rename_i h
  go_ret
  exact ⟨by rw [Pl.sml,if_pos h];simp,rfl⟩
 ·rename_i h
  go_ret
  exact ⟨by rw [Pl.sml,h];rfl,rfl⟩
end Go.Proofs.YtcmgclckknpecaaGreatDoor
namespace Go.Proofs.YtcmgclckknpecaaGreatDoor
open Go.RowKit
def Pl.cdx (xs:List (Nat × Nat × Nat)) (k:Nat):Nat:=(xs[k]?.getD (0,0,0)).1
theorem Pl.cdx_eq {xs:List (Nat × Nat × Nat)} {k:Nat} (h:k<xs.length):Pl.cdx xs k=(xs[k]).1:=by simp [Pl.cdx,h]
structure Cr (g o:Nat) (xs:List (Nat × Nat × Nat)) (w:World):Prop where
 c:∀ i (h:i<xs.length),w.cell? ⟨g,o+i*3,none⟩=some (.int .i64 ((xs[i]).1:Int))∧w.cell? ⟨g,o+i*3+1,none⟩=some (.int .i64 ((xs[i]).2.1:Int))∧w.cell? ⟨g,o+i*3+2,none⟩=some (.int .i64 ((xs[i]).2.2:Int))
theorem Cr.code {g o:Nat} {xs:List (Nat × Nat × Nat)} {w:World} (h:Cr g o xs w) {k:Nat} (hk:k<xs.length):w.cell? ⟨g,o+k*3,none⟩=some (.int .i64 (Pl.cdx xs k:Int)):=by
 rw [Pl.cdx_eq hk];exact (h.c k hk).1
set_option maxHeartbeats 1000000 in
theorem between_let (g o cap:Nat) (xs:List (Nat × Nat × Nat)) (k:Nat) (w:World) (hC:Cr g o xs w) (hk1:1≤k) (hk:k<xs.length) (hl:xs.length≤268435456) :
  Calls Tryz.prog 364 #[.slice (some ⟨g,o,none⟩) xs.length cap,.int .i64 (k:Int),.func (.func 300) #[] #[]] w fun e w'=>e=.returned (.bool (Pl.isLet (Pl.cdx xs (k - 1)) && decide (k+1<xs.length) && Pl.isLet (Pl.cdx xs (k+1))))∧w'=w:=by
 have c0:=hC.code (k:=k - 1) (by omega)
 by_cases h1:k+1<xs.length
 ·have c1:=hC.code h1
  have h1':(k:Int)+1<(xs.length:Int):=by omega
  go_enter Tryz.func364,Tryz.ntmps364
  go_wp2_with (go_at_call 300;refine (isLetter_any _ _).mono ?_;rintro e w' ⟨rfl,rfl⟩)
  ·go_ret
   exact ⟨ret_bool (by simp_all),rfl⟩
  ·go_ret
   exact ⟨ret_bool (by simp_all),rfl⟩
 ·have h1':¬ (k:Int)+1<(xs.length:Int):=by omega
  go_enter Tryz.func364,Tryz.ntmps364
  go_wp2_with (go_at_call 300;refine (isLetter_any _ _).mono ?_;rintro e w' ⟨rfl,rfl⟩)
  ·go_ret
   exact ⟨ret_bool (by simp_all),rfl⟩
  ·go_ret
   exact ⟨ret_bool (by simp_all),rfl⟩
set_option maxHeartbeats 1000000 in
theorem between_dig (g o cap:Nat) (xs:List (Nat × Nat × Nat)) (k:Nat) (w:World) (hC:Cr g o xs w) (hk1:1≤k) (hk:k<xs.length) (hl:xs.length≤268435456) :
  Calls Tryz.prog 364 #[.slice (some ⟨g,o,none⟩) xs.length cap,.int .i64 (k:Int),.func (.func 301) #[] #[]] w fun e w'=>e=.returned (.bool (Pl.isDig (Pl.cdx xs (k - 1)) && decide (k+1<xs.length) && Pl.isDig (Pl.cdx xs (k+1))))∧w'=w:=by
 have c0:=hC.code (k:=k - 1) (by omega)
 by_cases h1:k+1<xs.length
 ·have c1:=hC.code h1
  have h1':(k:Int)+1<(xs.length:Int):=by omega
  go_enter Tryz.func364,Tryz.ntmps364
  go_wp2_with (go_at_call 301;refine (isDigit_any _ _).mono ?_;rintro e w' ⟨rfl,rfl⟩)
  ·go_ret
   exact ⟨ret_bool (by simp_all),rfl⟩
  ·go_ret
   exact ⟨ret_bool (by simp_all),rfl⟩
 ·have h1':¬ (k:Int)+1<(xs.length:Int):=by omega
  go_enter Tryz.func364,Tryz.ntmps364
  go_wp2_with (go_at_call 301;refine (isDigit_any _ _).mono ?_;rintro e w' ⟨rfl,rfl⟩)
  ·go_ret
   exact ⟨ret_bool (by simp_all),rfl⟩
  ·go_ret
   exact ⟨ret_bool (by simp_all),rfl⟩
set_option maxHeartbeats 1000000 in
theorem goesOn_any (g o cap:Nat) (xs:List (Nat × Nat × Nat)) (k:Nat) (w:World) (hC:Cr g o xs w) (hk1:1≤k) (hk:k<xs.length) (hl:xs.length≤268435456) :
  Calls Tryz.prog 302 #[.slice (some ⟨g,o,none⟩) xs.length cap,.int .i64 (k:Int)] w fun e w'=>e=.returned (.bool (Pl.gon (Pl.cdx xs) xs.length k))∧w'=w:=by
 have c0:=hC.code hk
 have HB1:Hid (∀ w,Cr g o xs w→Calls Tryz.prog 364 #[.slice (some ⟨g,o,none⟩) xs.length cap,.int .i64 (k:Int),.func (.func 300) #[] #[]] w fun e w'=>e=.returned (.bool (Pl.isLet (Pl.cdx xs (k - 1)) && decide (k+1<xs.length) && Pl.isLet (Pl.cdx xs (k+1))))∧w'=w):=fun w hC=>between_let g o cap xs k w hC hk1 hk hl
 have HB2:Hid (∀ w,Cr g o xs w→Calls Tryz.prog 364 #[.slice (some ⟨g,o,none⟩) xs.length cap,.int .i64 (k:Int),.func (.func 301) #[] #[]] w fun e w'=>e=.returned (.bool (Pl.isDig (Pl.cdx xs (k - 1)) && decide (k+1<xs.length) && Pl.isDig (Pl.cdx xs (k+1))))∧w'=w):=fun w hC=>between_dig g o cap xs k w hC hk1 hk hl
 have hkI:(k:Int)<(xs.length:Int):=by omega
 obtain ⟨c,hc⟩:∃ c,Pl.cdx xs k=c:=⟨_,rfl⟩
 rw [hc] at c0
 by_cases h1:c=39∨c=8217
 ·have e1:Pl.gon (Pl.cdx xs) xs.length k=(Pl.isLet (Pl.cdx xs (k - 1)) && decide (k+1<xs.length) && Pl.isLet (Pl.cdx xs (k+1))):=by rw [Pl.gon,hc,if_pos h1]
  rw [e1]
  clear e1 hc
  obtain ⟨B,hB⟩:∃ B,(Pl.isLet (Pl.cdx xs (k - 1)) && decide (k+1<xs.length) && Pl.isLet (Pl.cdx xs (k+1)))=B:=⟨_,rfl⟩
  rw [hB] at HB1 ⊢
  rcases h1 with rfl | rfl
  ·go_enter Tryz.func302,Tryz.ntmps302
   go_wp2_with (go_at_call 364;refine (HB1.out _ hC).mono ?_;rintro e w' ⟨rfl,rfl⟩)
   go_ret
   exact ⟨rfl,rfl⟩
  ·go_enter Tryz.func302,Tryz.ntmps302
   go_wp2_with (go_at_call 364;refine (HB1.out _ hC).mono ?_;rintro e w' ⟨rfl,rfl⟩)
   go_ret
   exact ⟨rfl,rfl⟩
 ·by_cases h2:c=46∨c=44
  ·have e1:Pl.gon (Pl.cdx xs) xs.length k=(Pl.isDig (Pl.cdx xs (k - 1)) && decide (k+1<xs.length) && Pl.isDig (Pl.cdx xs (k+1))):=by rw [Pl.gon,hc,if_neg h1,if_pos h2]
   rw [e1]
   clear e1 hc h1
   obtain ⟨B,hB⟩:∃ B,(Pl.isDig (Pl.cdx xs (k - 1)) && decide (k+1<xs.length) && Pl.isDig (Pl.cdx xs (k+1)))=B:=⟨_,rfl⟩
   rw [hB] at HB2 ⊢
   rcases h2 with rfl | rfl
   ·go_enter Tryz.func302,Tryz.ntmps302
    go_wp2_with (go_at_call 364;refine (HB2.out _ hC).mono ?_;rintro e w' ⟨rfl,rfl⟩)
    go_ret
    exact ⟨rfl,rfl⟩
   ·go_enter Tryz.func302,Tryz.ntmps302
    go_wp2_with (go_at_call 364;refine (HB2.out _ hC).mono ?_;rintro e w' ⟨rfl,rfl⟩)
    go_ret
    exact ⟨rfl,rfl⟩
  ·have e1:Pl.gon (Pl.cdx xs) xs.length k=(Pl.isLet c || Pl.isDig c || Pl.isMrk c):=by rw [Pl.gon,hc,if_neg h1,if_neg h2]
   rw [e1]
   have q1:((c:Int) == 39)=false:=by simp;omega
   have q2:((c:Int) == 8217)=false:=by simp;omega
   have q3:((c:Int) == 46)=false:=by simp;omega
   have q4:((c:Int) == 44)=false:=by simp;omega
   clear e1 hc h1 h2
   go_enter Tryz.func302,Tryz.ntmps302
   go_wp2_with (first
    | (go_at_call 300;refine (isLetter_any _ _).mono ?_;rintro e w' ⟨rfl,rfl⟩)
    | (go_at_call 301;refine (isDigit_any _ _).mono ?_;rintro e w' ⟨rfl,rfl⟩)
    | (go_at_call 299;refine (isMark_any _ _).mono ?_;rintro e w' ⟨rfl,rfl⟩))
   all_goals go_ret
   all_goals exact ⟨ret_bool (by simp_all),rfl⟩
end Go.Proofs.YtcmgclckknpecaaGreatDoor
namespace Go.Proofs.YtcmgclckknpecaaGreatDoor
open Go.RowKit
theorem ret_sub {i R S:Nat} (h:S=R - i) (hi:i≤R):Ending.returned (.int .i64 ((R:Int) - (i:Int)))=.returned (.int .i64 ((S:Nat):Int)):=by
 rw [h,Int.ofNat_sub hi]
set_option maxHeartbeats 1000000 in
theorem wordSize_sign (g o cap:Nat) (xs:List (Nat × Nat × Nat)) (i:Nat) (w:World) (hC:Cr g o xs w) (hi:i<xs.length) (hl:xs.length≤268435456) (c:Nat) (hc:Pl.cdx xs i=c) (h1:Pl.isSgn c=true) :
  Calls Tryz.prog 200 #[.slice (some ⟨g,o,none⟩) xs.length cap,.int .i64 (i:Int)] w fun e w'=>e=.returned (.int .i64 ((Pl.wsz (Pl.cdx xs) xs.length i:Nat):Int))∧w'=w:=by
 have c0:=hC.code hi
 have hiI:(i:Int)<(xs.length:Int):=by omega
 rw [hc] at c0
 obtain ⟨R,hR⟩:∃ R,Pl.run (fun k=>Pl.isMrk (Pl.cdx xs k)) xs.length xs.length (i+1)=R:=⟨_,rfl⟩
 have hRg:=Pl.run_ge (fun k=>Pl.isMrk (Pl.cdx xs k)) xs.length xs.length (i+1)
 rw [hR] at hRg
 have HW:Hid (Pl.wsz (Pl.cdx xs) xs.length i=R - i):=by show _=_;rw [Pl.wsz,hc,if_pos h1,hR]
 have HR:Hid (Pl.run (fun k=>Pl.isMrk (Pl.cdx xs k)) xs.length xs.length (i+1)=R):=hR
 clear hR hc
 go_enter Tryz.func200,Tryz.ntmps200
 go_wp2_with (go_at_call 298;refine (isSign_any _ _).mono ?_;rintro e w' ⟨rfl,rfl⟩)
 go_loopw [5] (fun t wr=>∃ k m:Nat,t=.int .i64 (k:Int)∧k≤xs.length∧xs.length≤k+m∧Hid (Pl.run (fun k=>Pl.isMrk (Pl.cdx xs k)) xs.length m k=R)∧wr=w') (fun t _=>xs.length - (intOf t).toNat)
 case atStart=>exact ⟨i+1,xs.length,by go_num,by omega,by omega,HR,rfl⟩
 case round =>
  obtain ⟨k,m,rfl,hk,hkm,HK,rfl⟩:=hrel
  by_cases hkl:k<xs.length
  ·have hkI:(k:Int)<(xs.length:Int):=by omega
   have ck:=hC.code hkl
   obtain ⟨d,hd⟩:∃ d,Pl.cdx xs k=d:=⟨_,rfl⟩
   rw [hd] at ck
   by_cases h2:Pl.isMrk d=true
   ·obtain ⟨m',hm',hr'⟩:=Pl.run_yes hkl (by rw [hd];exact h2) hkm HK.out
    have HK2:Hid (Pl.run (fun k=>Pl.isMrk (Pl.cdx xs k)) xs.length m' (k+1)=R):=hr'
    clear hr' hd HK
    go_wp2_with (go_at_call 299;refine (isMark_any _ _).mono ?_;rintro e w' ⟨rfl,rfl⟩)
    exact ⟨⟨k+1,m',by go_num,by omega,by omega,HK2,trivial⟩,by simp [intOf];omega⟩
   ·have hx:=Pl.run_no (fun h=>h2 (by rw [← hd];exact h.2)) HK.out
    have h2':Pl.isMrk d=false:=eq_false_of_ne_true h2
    clear hd HK h2
    go_wp2_with (go_at_call 299;refine (isMark_any _ _).mono ?_;rintro e w' ⟨rfl,rfl⟩)
    go_ret
    subst hx
    exact ⟨ret_sub HW.out (by omega),rfl⟩
  ·have hx:=Pl.run_no (fun h=>hkl h.1) HK.out
   have hkI:¬ (k:Int)<(xs.length:Int):=by omega
   clear HK
   go_wp2_with fail
   go_ret
   subst hx
   exact ⟨ret_sub HW.out (by omega),rfl⟩
set_option maxHeartbeats 1000000 in
theorem wordSize_let (g o cap:Nat) (xs:List (Nat × Nat × Nat)) (i:Nat) (w:World) (hC:Cr g o xs w) (hi:i<xs.length) (hl:xs.length≤268435456) (c:Nat) (hc:Pl.cdx xs i=c) (h1:Pl.isSgn c=false) (h2:(Pl.isLet c || Pl.isDig c)=true) :
  Calls Tryz.prog 200 #[.slice (some ⟨g,o,none⟩) xs.length cap,.int .i64 (i:Int)] w fun e w'=>e=.returned (.int .i64 ((Pl.wsz (Pl.cdx xs) xs.length i:Nat):Int))∧w'=w:=by
 have c0:=hC.code hi
 have hiI:(i:Int)<(xs.length:Int):=by omega
 rw [hc] at c0
 obtain ⟨R,hR⟩:∃ R,Pl.run (Pl.gon (Pl.cdx xs) xs.length) xs.length xs.length (i+1)=R:=⟨_,rfl⟩
 have hRg:=Pl.run_ge (Pl.gon (Pl.cdx xs) xs.length) xs.length xs.length (i+1)
 rw [hR] at hRg
 have HW:Hid (Pl.wsz (Pl.cdx xs) xs.length i=R - i):=by show _=_;rw [Pl.wsz,hc,h1,if_neg (by simp),if_pos h2,hR]
 have HR:Hid (Pl.run (Pl.gon (Pl.cdx xs) xs.length) xs.length xs.length (i+1)=R):=hR
 clear hR hc
 go_enter Tryz.func200,Tryz.ntmps200
 go_wp2_with (first
  | (go_at_call 298;refine (isSign_any _ _).mono ?_;rintro e w' ⟨rfl,rfl⟩)
  | (go_at_call 300;refine (isLetter_any _ _).mono ?_;rintro e w' ⟨rfl,rfl⟩)
  | (go_at_call 301;refine (isDigit_any _ _).mono ?_;rintro e w' ⟨rfl,rfl⟩))
 ·go_loopw [5] (fun t wr=>∃ k m:Nat,t=.int .i64 (k:Int)∧k≤xs.length∧1≤k∧xs.length≤k+m∧Hid (Pl.run (Pl.gon (Pl.cdx xs) xs.length) xs.length m k=R)∧wr=w') (fun t _=>xs.length - (intOf t).toNat)
  case atStart=>exact ⟨i+1,xs.length,by go_num,by omega,by omega,by omega,HR,rfl⟩
  case round =>
   obtain ⟨k,m,rfl,hk,hk1,hkm,HK,rfl⟩:=hrel
   by_cases hkl:k<xs.length
   ·have hkI:(k:Int)<(xs.length:Int):=by omega
    have hgo:=fun w hC=>goesOn_any g o cap xs k w hC hk1 hkl hl
    obtain ⟨d,hd⟩:∃ d,Pl.gon (Pl.cdx xs) xs.length k=d:=⟨_,rfl⟩
    rw [hd] at hgo
    have HGO:Hid (∀ w,Cr g o xs w→Calls Tryz.prog 302 #[.slice (some ⟨g,o,none⟩) xs.length cap,.int .i64 (k:Int)] w fun e w'=>e=.returned (.bool d)∧w'=w):=hgo
    clear hgo
    cases d with
    | true =>
     obtain ⟨m',hm',hr'⟩:=Pl.run_yes hkl hd hkm HK.out
     have HK2:Hid (Pl.run (Pl.gon (Pl.cdx xs) xs.length) xs.length m' (k+1)=R):=hr'
     clear hr' hd HK
     go_wp2_with (go_at_call 302;refine (HGO.out _ hC).mono ?_;rintro e w' ⟨rfl,rfl⟩)
     exact ⟨⟨k+1,m',by go_num,by omega,by omega,by omega,HK2,trivial⟩,by simp [intOf];omega⟩
    | false =>
     have hx:=Pl.run_no (fun h=>absurd (hd.symm.trans h.2) (by simp)) HK.out
     clear hd HK
     go_wp2_with (go_at_call 302;refine (HGO.out _ hC).mono ?_;rintro e w' ⟨rfl,rfl⟩)
     go_ret
     subst hx
     exact ⟨ret_sub HW.out (by omega),rfl⟩
   ·have hx:=Pl.run_no (fun h=>hkl h.1) HK.out
    have hkI:¬ (k:Int)<(xs.length:Int):=by omega
    clear HK
    go_wp2_with fail
    go_ret
    subst hx
    exact ⟨ret_sub HW.out (by omega),rfl⟩
 ·rename_i hdg
  rw [hdg]
  go_loopw [5] (fun t wr=>∃ k m:Nat,t=.int .i64 (k:Int)∧k≤xs.length∧1≤k∧xs.length≤k+m∧Hid (Pl.run (Pl.gon (Pl.cdx xs) xs.length) xs.length m k=R)∧wr=w') (fun t _=>xs.length - (intOf t).toNat)
  case atStart=>exact ⟨i+1,xs.length,by go_num,by omega,by omega,by omega,HR,rfl⟩
  case round =>
   obtain ⟨k,m,rfl,hk,hk1,hkm,HK,rfl⟩:=hrel
   by_cases hkl:k<xs.length
   ·have hkI:(k:Int)<(xs.length:Int):=by omega
    have hgo:=fun w hC=>goesOn_any g o cap xs k w hC hk1 hkl hl
    obtain ⟨d,hd⟩:∃ d,Pl.gon (Pl.cdx xs) xs.length k=d:=⟨_,rfl⟩
    rw [hd] at hgo
    have HGO:Hid (∀ w,Cr g o xs w→Calls Tryz.prog 302 #[.slice (some ⟨g,o,none⟩) xs.length cap,.int .i64 (k:Int)] w fun e w'=>e=.returned (.bool d)∧w'=w):=hgo
    clear hgo
    cases d with
    | true =>
     obtain ⟨m',hm',hr'⟩:=Pl.run_yes hkl hd hkm HK.out
     have HK2:Hid (Pl.run (Pl.gon (Pl.cdx xs) xs.length) xs.length m' (k+1)=R):=hr'
     clear hr' hd HK
     go_wp2_with (go_at_call 302;refine (HGO.out _ hC).mono ?_;rintro e w' ⟨rfl,rfl⟩)
     exact ⟨⟨k+1,m',by go_num,by omega,by omega,by omega,HK2,trivial⟩,by simp [intOf];omega⟩
    | false =>
     have hx:=Pl.run_no (fun h=>absurd (hd.symm.trans h.2) (by simp)) HK.out
     clear hd HK
     go_wp2_with (go_at_call 302;refine (HGO.out _ hC).mono ?_;rintro e w' ⟨rfl,rfl⟩)
     go_ret
     subst hx
     exact ⟨ret_sub HW.out (by omega),rfl⟩
   ·have hx:=Pl.run_no (fun h=>hkl h.1) HK.out
    have hkI:¬ (k:Int)<(xs.length:Int):=by omega
    clear HK
    go_wp2_with fail
    go_ret
    subst hx
    exact ⟨ret_sub HW.out (by omega),rfl⟩
 ·exfalso
  simp_all
set_option maxHeartbeats 1000000 in
theorem wordSize_no (g o cap:Nat) (xs:List (Nat × Nat × Nat)) (i:Nat) (w:World) (hC:Cr g o xs w) (hi:i<xs.length) (_hl:xs.length≤268435456) (c:Nat) (hc:Pl.cdx xs i=c) (h1:Pl.isSgn c=false) (h2:Pl.isLet c=false) (h3:Pl.isDig c=false) :
  Calls Tryz.prog 200 #[.slice (some ⟨g,o,none⟩) xs.length cap,.int .i64 (i:Int)] w fun e w'=>e=.returned (.int .i64 ((Pl.wsz (Pl.cdx xs) xs.length i:Nat):Int))∧w'=w:=by
 have c0:=hC.code hi
 have hiI:(i:Int)<(xs.length:Int):=by omega
 rw [hc] at c0
 have HW:Hid (Pl.wsz (Pl.cdx xs) xs.length i=0):=by show _=_;simp [Pl.wsz,hc,h1,h2,h3]
 clear hc
 go_enter Tryz.func200,Tryz.ntmps200
 go_wp2_with (first
  | (go_at_call 298;refine (isSign_any _ _).mono ?_;rintro e w' ⟨rfl,rfl⟩)
  | (go_at_call 300;refine (isLetter_any _ _).mono ?_;rintro e w' ⟨rfl,rfl⟩)
  | (go_at_call 301;refine (isDigit_any _ _).mono ?_;rintro e w' ⟨rfl,rfl⟩))
 go_ret
 exact ⟨by rw [HW.out];rfl,rfl⟩
theorem wordSize_any (g o cap:Nat) (xs:List (Nat × Nat × Nat)) (i:Nat) (w:World) (hC:Cr g o xs w) (hi:i<xs.length) (hl:xs.length≤268435456) :
  Calls Tryz.prog 200 #[.slice (some ⟨g,o,none⟩) xs.length cap,.int .i64 (i:Int)] w fun e w'=>e=.returned (.int .i64 ((Pl.wsz (Pl.cdx xs) xs.length i:Nat):Int))∧w'=w:=by
 by_cases h1:Pl.isSgn (Pl.cdx xs i)=true
 ·exact wordSize_sign g o cap xs i w hC hi hl _ rfl h1
 ·have h1':=eq_false_of_ne_true h1
  by_cases h2:(Pl.isLet (Pl.cdx xs i) || Pl.isDig (Pl.cdx xs i))=true
  ·exact wordSize_let g o cap xs i w hC hi hl _ rfl h1' h2
  ·have h2':Pl.isLet (Pl.cdx xs i)=false∧Pl.isDig (Pl.cdx xs i)=false:=by simpa using h2
   exact wordSize_no g o cap xs i w hC hi hl _ rfl h1' h2'.1 h2'.2
end Go.Proofs.YtcmgclckknpecaaGreatDoor
