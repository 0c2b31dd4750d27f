import Derived.Test.YtcmgclckknpecaaGreatDoorKaw
import Derived.Shelf.Small.Wraps
import Derived.Shelf.Slices.Turned
import Derived.Shelf.Utf8.RuneCount
import Derived.Laws.Rows
import Derived.Test.YtcmgclckknpecaaGreatDoorKas
import Derived.Lib.RuneCountTail
import Derived.Lib.RuneBytes
namespace Go.Proofs.YtcmgclckknpecaaGreatDoor
open Go.RowKit Go.Shelf
def Pl.plF (s:ByteArray):Nat→Nat→Bool
 | 0,_=>true
 | m+1,pos=>if pos<s.size then Pl.wit (Utf8.decode s pos).1 97 122 && Pl.plF s m (pos+(Utf8.decode s pos).2) else true
theorem Pl.plF_end (s:ByteArray) (m pos:Nat) (h:¬ pos<s.size):Pl.plF s m pos=true:=by
 cases m with
 | zero=>rfl
 | succ m=>simp [Pl.plF,h]
set_option maxRecDepth 100000 in
set_option maxHeartbeats 2000000 in
theorem plain_any (s:ByteArray) (w:World) :
  Calls Tryz.prog 232 #[.string s] w fun e w'=>e=.returned (.bool (Pl.plF s s.size 0))∧Below w.heap.size w w':=by
 obtain ⟨R,hR⟩:∃ R,Pl.plF s s.size 0=R:=⟨_,rfl⟩
 rw [hR]
 have HR:Hid (Pl.plF s s.size 0=R):=hR
 clear hR
 go_enter Tryz.func232,Tryz.ntmps232
 go_wp2
 go_loopw [] (fun wr=>∃ (pos fuel:Nat),wr.heap[w.heap.size]?=some (.stringIter s pos)∧Below w.heap.size w wr∧Hid (Pl.plF s fuel pos=R)∧s.size≤pos+fuel) (fun wr=>s.size - wr.iterPos w.heap.size)
 case atStart=>exact ⟨0,s.size,World.iter_heap w s 0,(Below.refl _ w).alloc (Nat.le_refl _) _,HR,by omega⟩
 case round =>
  obtain ⟨pos,fuel,hit,hB,HA,hfu⟩:=hrel
  by_cases hp:pos<s.size
  ·have hnx:∀ ty,(Instr.next (.pointer (some ⟨w.heap.size,0,none⟩)) true ty).run Tryz.prog wr=_:=fun ty=>Lib.run_next_any_at wr w.heap.size s pos ty hit hp
   have hwd:=width_pos s pos hp
   have hd1:=decode_le s pos
   obtain ⟨f,rfl⟩:∃ f,fuel=f+1:=⟨fuel - 1,by omega⟩
   have hH:=HA.out
   simp only [Pl.plF,if_pos hp] at hH
   obtain ⟨c,hc⟩:∃ c,(Utf8.decode s pos).1=c:=⟨_,rfl⟩
   obtain ⟨wd,hwdd⟩:∃ wd,(Utf8.decode s pos).2=wd:=⟨_,rfl⟩
   rw [hc,hwdd] at hnx hH
   rw [hc] at hd1
   rw [hwdd] at hwd
   have hit2:=Lib.iterAt_heap wr w.heap.size s pos (pos+wd) hit
   have hB2:=Lib.below_iterAt hB (k:=w.heap.size) (Nat.le_refl _) s (pos+wd)
   obtain ⟨X,hX⟩:∃ X,wr.iterAt w.heap.size s (pos+wd)=X:=⟨_,rfl⟩
   rw [hX] at hnx hit2 hB2
   clear hc hwdd HA
   by_cases h1:c<97
   ·have h1I:(c:Int)<97:=by omega
    have HR2:Hid (R=false):=by show _=_;rw [← hH];simp [Pl.wit];omega
    clear hH
    go_wp2_with fail
    go_ret
    exact ⟨ret_bool HR2.out.symm,hB2⟩
   ·have h1I:¬ (c:Int)<97:=by omega
    by_cases h2:122<c
    ·have h2I:(122:Int)<(c:Int):=by omega
     have HR2:Hid (R=false):=by show _=_;rw [← hH];simp [Pl.wit];omega
     clear hH
     go_wp2_with fail
     go_ret
     exact ⟨ret_bool HR2.out.symm,hB2⟩
    ·have h2I:¬ (122:Int)<(c:Int):=by omega
     have HA2:Hid (Pl.plF s f (pos+wd)=R):=by
      show _=_
      rw [← hH]
      simp [Pl.wit,show 97≤c by omega,show c≤122 by omega]
     clear hH
     go_wp2_with fail
     go_roundw
     case rel=>exact ⟨pos+wd,f,hit2,hB2,HA2,by omega⟩
     case measure=>simp only [World.iterPos,hit2,hit];omega
  ·have hnx:∀ ty,(Instr.next (.pointer (some ⟨w.heap.size,0,none⟩)) true ty).run Tryz.prog wr=_:=fun ty=>Lib.run_next_end_at wr w.heap.size s pos ty hit hp
   have HR2:Hid (R=true):=by have:=HA.out;rw [Pl.plF_end _ _ _ hp] at this;exact this.symm
   clear HA
   go_wp2_with fail
   go_ret
   exact ⟨ret_bool HR2.out.symm,hB⟩
end Go.Proofs.YtcmgclckknpecaaGreatDoor
namespace Go.Proofs.YtcmgclckknpecaaGreatDoor
open Go.RowKit Go.Shelf
def renL:Ren:=⟨fun | 104=>305 | 207=>406 | 211=>366 | 109=>307 | 110=>210 | 195=>214 | n=>n,fun | 24=>264 | 31=>63 | n=>n,fun n=>n⟩
theorem lays104:Lays.n104 Tryz.prog renL :=
 {mixed:=by kernel_rfl,f104:=by kernel_rfl,f207:=by kernel_rfl,f211:=by kernel_rfl,t3:=by kernel_rfl,a3:=fun _=>by kernel_rfl,z3:=fun _=>by kernel_rfl,v3:=fun _=>by kernel_rfl,t4:=by kernel_rfl,a4:=fun _=>by kernel_rfl,z4:=fun _=>by kernel_rfl,v4:=fun _=>by kernel_rfl,t9:=by kernel_rfl,a9:=fun _=>by kernel_rfl,z9:=fun _=>by kernel_rfl,v9:=fun _=>by kernel_rfl,t24:=by kernel_rfl,a24:=fun _=>by kernel_rfl,z24:=fun _=>by kernel_rfl,v24:=fun _=>by kernel_rfl }
theorem lays110:Lays.n110 Tryz.prog renL :=
 {mixed:=by kernel_rfl,f109:=by kernel_rfl,f110:=by kernel_rfl,t0:=by kernel_rfl,a0:=fun _=>by kernel_rfl,z0:=fun _=>by kernel_rfl,v0:=fun _=>by kernel_rfl,t3:=by kernel_rfl,a3:=fun _=>by kernel_rfl,z3:=fun _=>by kernel_rfl,v3:=fun _=>by kernel_rfl,t4:=by kernel_rfl,a4:=fun _=>by kernel_rfl,z4:=fun _=>by kernel_rfl,v4:=fun _=>by kernel_rfl,t9:=by kernel_rfl,a9:=fun _=>by kernel_rfl,z9:=fun _=>by kernel_rfl,v9:=fun _=>by kernel_rfl,t31:=by kernel_rfl,a31:=fun _=>by kernel_rfl,z31:=fun _=>by kernel_rfl,v31:=fun _=>by kernel_rfl }
theorem lays195:Lays.n195 Tryz.prog renL :=
 {mixed:=by kernel_rfl,f195:=by kernel_rfl,t0:=by kernel_rfl,a0:=fun _=>by kernel_rfl,z0:=fun _=>by kernel_rfl,v0:=fun _=>by kernel_rfl,t3:=by kernel_rfl,a3:=fun _=>by kernel_rfl,z3:=fun _=>by kernel_rfl,v3:=fun _=>by kernel_rfl,t4:=by kernel_rfl,a4:=fun _=>by kernel_rfl,z4:=fun _=>by kernel_rfl,v4:=fun _=>by kernel_rfl,t9:=by kernel_rfl,a9:=fun _=>by kernel_rfl,z9:=fun _=>by kernel_rfl,v9:=fun _=>by kernel_rfl }
theorem cutSuffix_any (s p:ByteArray) (w:World) (hs:s.size≤9223372036854775807) :
  Calls Tryz.prog 305 #[.string s,.string p] w fun e w'=>e=.returned (.tuple #[.string ⟨(Lib.trimSuffix s.data.toList p.data.toList).toArray⟩,.bool (Lib.hasSuffix s.data.toList p.data.toList)])∧w'=w:=Any.strings_CutSuffix lays104 s p w hs
theorem runeCount_any (s:ByteArray) (w:World) (hs:s.size<9223372036854775807):Calls Tryz.prog 214 #[.string s] w fun e w'=>e=.returned (.int .i64 (Lib.runeCount s))∧Below w.heap.size w w' :=
 (Any.utf8_RuneCountInString lays195 s w hs).mono fun e w' ⟨h1,pos,h2⟩=>⟨h1,by rw [h2];exact (Below.refl _ w).alloc (Nat.le_refl _) _⟩
theorem contains_any (g n c:Nat) (a:Option Addr) (ws:List ByteArray) (x:ByteArray) (w:World) (hn:n=ws.length) (hl:ws.length≤1000) (ha:0<ws.length→a=some ⟨g,0,none⟩) (hc:∀ j (h:j<ws.length),w.cell? ⟨g,j,none⟩=some (.string ws[j])) :
  Calls Tryz.prog 210 #[.slice a n c,.string x] w fun e w'=>e=.returned (.bool (Lib.containsS ws x))∧w'=w:=by
 subst hn
 cases ws with
 | nil =>
  have h0:Lib.containsS [] x=false:=by
   rcases Bool.eq_false_or_eq_true (Lib.containsS [] x) with h1 | h1
   ·have:=(Lib.containsS_iff [] x).1 h1
    cases this
   ·exact h1
  rw [h0]
  exact Any.slices_Contains_string_empty lays110 a c x w
 | cons y r =>
  obtain rfl:=ha (by simp)
  have:=Any.slices_Contains_string lays110 g 0 (y :: r).length c (y :: r) x w (Nat.le_refl _) (by simp at hl ⊢;omega) (fun j hj=>by
   rw [Nat.zero_add,hc j hj]
   simp [List.getD,List.getElem?_eq_getElem hj])
  rw [List.take_length] at this
  exact this
end Go.Proofs.YtcmgclckknpecaaGreatDoor
namespace Go.Proofs.YtcmgclckknpecaaGreatDoor
open Go.RowKit Go.Shelf
def Pl.ends9:List (ByteArray × Nat × ByteArray):=[(⟨#[115,115,101,115]⟩,1,⟨#[115,115]⟩),(⟨#[105,101,115]⟩,2,⟨#[121]⟩),(⟨#[115,115]⟩,1,⟨#[115,115]⟩),(⟨#[117,115]⟩,1,⟨#[117,115]⟩),(⟨#[115]⟩,2,⟨#[]⟩),(⟨#[105,110,103]⟩,3,⟨#[]⟩),(⟨#[101,100,108,121]⟩,3,⟨#[]⟩),(⟨#[101,100]⟩,3,⟨#[]⟩),(⟨#[108,121]⟩,3,⟨#[]⟩)]
def endC:Array Value:=#[.string ⟨#[115,115,101,115]⟩,.int .i64 1,.string ⟨#[115,115]⟩,.string ⟨#[105,101,115]⟩,.int .i64 2,.string ⟨#[121]⟩,.string ⟨#[115,115]⟩,.int .i64 1,.string ⟨#[115,115]⟩,.string ⟨#[117,115]⟩,.int .i64 1,.string ⟨#[117,115]⟩,.string ⟨#[115]⟩,.int .i64 2,.string ⟨#[]⟩,.string ⟨#[105,110,103]⟩,.int .i64 3,.string ⟨#[]⟩,.string ⟨#[101,100,108,121]⟩,.int .i64 3,.string ⟨#[]⟩,.string ⟨#[101,100]⟩,.int .i64 3,.string ⟨#[]⟩,.string ⟨#[108,121]⟩,.int .i64 3,.string ⟨#[]⟩]
def Ends (w:World):Prop:=∃ t fr,w.heap[0]?=some (.cells endC t fr)
theorem Ends.below {w w':World} (h:Ends w) (hb:Below w.heap.size w w'):Ends w':=by
 obtain ⟨t,fr,h⟩:=h
 exact ⟨t,fr,(hb.block 0 (Array.getElem?_eq_some_iff.1 h).1).trans h⟩
theorem ends_at (k:Nat) (hk:k<9):∃ (o:ByteArray) (l:Nat) (nw:ByteArray),(∀ w,(Instr.index 434 (.agg endC) (.int .i64 (k:Int))).run Tryz.prog w=.ok (.agg #[.string o,.int .i64 (l:Int),.string nw]) w)∧Pl.ends9.drop k=(o,l,nw) :: Pl.ends9.drop (k+1)∧nw.size≤8:=by
 obtain rfl | rfl | rfl | rfl | rfl | rfl | rfl | rfl | rfl:k=0∨k=1∨k=2∨k=3∨k=4∨k=5∨k=6∨k=7∨k=8:=by omega
 ·exact ⟨⟨#[115,115,101,115]⟩,1,⟨#[115,115]⟩,fun w=>by kernel_rfl,rfl,by decide⟩
 ·exact ⟨⟨#[105,101,115]⟩,2,⟨#[121]⟩,fun w=>by kernel_rfl,rfl,by decide⟩
 ·exact ⟨⟨#[115,115]⟩,1,⟨#[115,115]⟩,fun w=>by kernel_rfl,rfl,by decide⟩
 ·exact ⟨⟨#[117,115]⟩,1,⟨#[117,115]⟩,fun w=>by kernel_rfl,rfl,by decide⟩
 ·exact ⟨⟨#[115]⟩,2,⟨#[]⟩,fun w=>by kernel_rfl,rfl,by decide⟩
 ·exact ⟨⟨#[105,110,103]⟩,3,⟨#[]⟩,fun w=>by kernel_rfl,rfl,by decide⟩
 ·exact ⟨⟨#[101,100,108,121]⟩,3,⟨#[]⟩,fun w=>by kernel_rfl,rfl,by decide⟩
 ·exact ⟨⟨#[101,100]⟩,3,⟨#[]⟩,fun w=>by kernel_rfl,rfl,by decide⟩
 ·exact ⟨⟨#[108,121]⟩,3,⟨#[]⟩,fun w=>by kernel_rfl,rfl,by decide⟩
theorem trim_le (a b:List UInt8):(Lib.trimSuffix a b).length≤a.length:=by
 unfold Lib.trimSuffix
 split <;> simp
def Pl.stF (s:ByteArray):List (ByteArray × Nat × ByteArray)→ByteArray
 | []=>s
 | e :: r=>if Lib.hasSuffix s.data.toList e.1.data.toList=true∧e.2.1≤(Lib.trimSuffix s.data.toList e.1.data.toList).length then ⟨(Lib.trimSuffix s.data.toList e.1.data.toList).toArray⟩++e.2.2 else Pl.stF s r
def Pl.stm (s:ByteArray):ByteArray:=if Pl.plF s s.size 0=true then Pl.stF s Pl.ends9 else s
set_option maxRecDepth 100000 in
set_option maxHeartbeats 4000000 in
theorem stem_any (s:ByteArray) (w:World) (hs:s.size≤1099511627776) (hE:Ends w) :
  Calls Tryz.prog 207 #[.string s] w fun e w'=>e=.returned (.string (Pl.stm s))∧Below w.heap.size w w':=by
 obtain ⟨R,hR⟩:∃ R,Pl.stm s=R:=⟨_,rfl⟩
 rw [hR]
 unfold Pl.stm at hR
 cases hp:Pl.plF s s.size 0 with
 | false =>
  rw [hp,if_neg (by simp)] at hR
  have HR:Hid (s=R):=hR
  have hpl:=plain_any s w
  rw [hp] at hpl
  have HPL:Hid (Calls Tryz.prog 232 #[.string s] w fun e w'=>e=.returned (.bool false)∧Below w.heap.size w w'):=hpl
  clear hpl hp hR hE
  go_enter Tryz.func207,Tryz.ntmps207
  go_wp2_with fail
  refine HPL.out.mono ?_
  rintro e w1 ⟨rfl,hB⟩
  go_wp2
  go_ret
  exact ⟨by rw [HR.out];rfl,hB⟩
 | true =>
  rw [hp,if_pos rfl] at hR
  have HR:Hid (Pl.stF s (Pl.ends9.drop 0)=R):=hR
  have hpl:=plain_any s w
  rw [hp] at hpl
  have HPL:Hid (Calls Tryz.prog 232 #[.string s] w fun e w'=>e=.returned (.bool true)∧Below w.heap.size w w'):=hpl
  have HE:Hid (Ends w):=hE
  obtain ⟨V,hV⟩:∃ V,endC=V:=⟨_,rfl⟩
  have hat:=ends_at
  rw [hV] at hat
  have HAT:Hid (∀ (k:Nat) (hk:k<9),∃ (o:ByteArray) (l:Nat) (nw:ByteArray),(∀ w,(Instr.index 434 (.agg V) (.int .i64 (k:Int))).run Tryz.prog w=.ok (.agg #[.string o,.int .i64 (l:Int),.string nw]) w)∧Pl.ends9.drop k=(o,l,nw) :: Pl.ends9.drop (k+1)∧nw.size≤8):=hat
  clear hpl hp hR hE hat
  go_enter Tryz.func207,Tryz.ntmps207
  go_wp2_with fail
  refine HPL.out.mono ?_
  rintro e w1 ⟨rfl,hB⟩
  obtain ⟨t0,fr0,hg0⟩:=HE.out.below hB
  rw [hV] at hg0
  have hsV:(Tryz.prog.info? 434).map (·.size)=some V.size:=by rw [← hV];kernel_rfl
  go_wp2_with (refine wpList_load_row (by rfl) 434 (.global 0) (by rfl) 0 (by rfl) t0 V fr0 _ hg0 Tryz.underlying434 rfl hsV ?_)
  clear hg0 hsV
  go_loopw [12] (fun i wr=>∃ k:Nat,i=.int .i64 (k:Int)∧k≤9∧Hid (Pl.stF s (Pl.ends9.drop k)=R)∧Below w.heap.size w wr) (fun i _=>9 - (intOf i).toNat)
  case atStart=>exact ⟨0,rfl,by omega,HR,hB⟩
  case round =>
   obtain ⟨k,rfl,hk,HH,hBr⟩:=hrel
   by_cases hk9:k<9
   ·have hkI:(k:Int)<9:=by omega
    obtain ⟨o,l,nw,hix,hdr,hnw⟩:=HAT.out k hk9
    have hH:=HH.out
    rw [hdr,Pl.stF] at hH
    have hcs:=fun w=>cutSuffix_any s o w (by omega)
    obtain ⟨T,hT⟩:∃ T,Lib.trimSuffix s.data.toList o.data.toList=T:=⟨_,rfl⟩
    obtain ⟨E,hEE⟩:∃ E,Lib.hasSuffix s.data.toList o.data.toList=E:=⟨_,rfl⟩
    simp only [hT,hEE] at hH hcs
    have HCS:Hid (∀ w,Calls Tryz.prog 305 #[.string s,.string o] w fun e w'=>e=.returned (.tuple #[.string ⟨T.toArray⟩,.bool E])∧w'=w):=hcs
    obtain ⟨t,ht⟩:∃ t:ByteArray,t=⟨T.toArray⟩:=⟨_,rfl⟩
    have htl:t.size=T.length:=by rw [ht];simp [ByteArray.size]
    have htb:t.size≤s.size:=by
     rw [htl,← hT]
     exact trim_le _ _
    have hcat:¬ 9223372036854775807<t.size+nw.size:=by omega
    rw [← ht] at HCS hH
    rw [← htl] at hH
    clear hcs hdr hT hEE ht htl HH
    have hsz:=hBr.size
    by_cases hyes:E=true∧l≤t.size
    ·rw [if_pos hyes] at hH
     obtain ⟨rfl,hl⟩:=hyes
     have hlI:(l:Int)≤(t.size:Int):=by omega
     have HRR:Hid (t++nw=R):=hH
     clear hH
     go_wp2_with (go_at_call 305;refine (HCS.out _).mono ?_;rintro e w2 ⟨rfl,rfl⟩)
     go_ret
     exact ⟨by rw [← HRR.out];rfl,hBr.alloc hsz _⟩
    ·rw [if_neg hyes] at hH
     have HRR:Hid (Pl.stF s (Pl.ends9.drop (k+1))=R):=hH
     clear hH
     cases E with
     | true =>
      have hl:¬ l≤t.size:=fun h=>hyes ⟨rfl,h⟩
      have hlI:¬ (l:Int)≤(t.size:Int):=by omega
      clear hyes
      go_wp2_with (go_at_call 305;refine (HCS.out _).mono ?_;rintro e w2 ⟨rfl,rfl⟩)
      go_roundw
      case rel=>exact ⟨k+1,by go_num,by omega,HRR,hBr.alloc hsz _⟩
      case measure=>simp [intOf];omega
     | false =>
      clear hyes
      go_wp2_with (go_at_call 305;refine (HCS.out _).mono ?_;rintro e w2 ⟨rfl,rfl⟩)
      go_roundw
      case rel=>exact ⟨k+1,by go_num,by omega,HRR,hBr.alloc hsz _⟩
      case measure=>simp [intOf];omega
   ·have hkI:¬ (k:Int)<9:=by omega
    obtain rfl:k=9:=by omega
    have hx:s=R:=HH.out
    have HX:Hid (s=R):=hx
    clear hx
    go_wp2
    go_ret
    exact ⟨by rw [HX.out];rfl,hBr⟩
end Go.Proofs.YtcmgclckknpecaaGreatDoor
namespace Go.Proofs.YtcmgclckknpecaaGreatDoor
open Go.RowKit Go.Shelf
attribute [local go_sem] Oper.semAt_some
def Pl.syF (t:ByteArray):List (ByteArray × ByteArray)→List ByteArray
 | []=>[]
 | p :: r=>if (p.1.toList == t.toList)=true then p.2 :: Pl.syF t r else Pl.syF t r
theorem Pl.syF_le (t:ByteArray):∀ ps:List (ByteArray × ByteArray),(Pl.syF t ps).length≤ps.length
 | []=>Nat.le_refl _
 | p :: r=>by
  have:=Pl.syF_le t r
  rw [Pl.syF]
  split <;> simp only [List.length_cons] <;> omega
structure Pbk (g:Nat) (ps:List (ByteArray × ByteArray)) (w:World):Prop where
 row:Prw g ps w
 blk:0<ps.length→∃ c fz,w.heap[g]?=some (.cells c 357 fz)
theorem Pbk.same {g:Nat} {ps:List (ByteArray × ByteArray)} {w w':World} (h:Pbk g ps w) (hb:0<ps.length→w'.heap[g]?=w.heap[g]?):Pbk g ps w' :=
 ⟨⟨fun i hi=>by
  have hh:=hb (by omega)
  have k:∀ j,w'.cell? ⟨g,j,none⟩=w.cell? ⟨g,j,none⟩:=fun j=>by simp [World.cell?,hh]
  rw [k,k];exact h.row.c i hi⟩,fun hp=>by
  obtain ⟨c,fz,hc⟩:=h.blk hp
  exact ⟨c,fz,(hb hp).trans hc⟩⟩
theorem Pbk.alloc {g:Nat} {ps:List (ByteArray × ByteArray)} {w:World} (h:Pbk g ps w) (O:Obj):Pbk g ps (w.alloc O) :=
 h.same fun hp=>by
  obtain ⟨c,fz,hc⟩:=h.blk hp
  exact ((Below.refl w.heap.size w).alloc (Nat.le_refl _) O).block g (Array.getElem?_eq_some_iff.1 hc).1
theorem Pbk.keepE {g B:Nat} {ps:List (ByteArray × ByteArray)} {w w':World} (h:Pbk g ps w) (hk:KeepE B 27 w w') (hne:g≠B):Pbk g ps w' :=
 h.same fun hp=>by
  obtain ⟨c,fz,hc⟩:=h.blk hp
  rw [hc]
  exact hk.block g _ hne hc (.inr ⟨rfl,fun c' fz' e=>by cases e⟩)
set_option maxRecDepth 100000 in
set_option maxHeartbeats 2000000 in
theorem withLike1_in (n:Nat) (_hn:1≤n) (l Bt Bp B gp capp:Nat) (ap:Option Addr) (x:ByteArray) (ps:List (ByteArray × ByteArray)) (hpl:ps.length≤1000) (J Jx:List ByteArray→World→Prop) (W:World) (hJ:AbidesFrom W.heap.size J)
  (N:Nat) (hN:ps.length+1≤N) (hY:∀ pre x W,J pre W→pre.length<N→YieldAt Fence.wide (n - 1) Tryz.prog l (encs1 x) W fun e W' =>
   (e=.returned (.bool true)∧J (pre++[x]) W'∧KeepE B 27 W W')∨(e=.returned (.bool false)∧Jx (pre++[x]) W'))
  (ht:Boxed W Bt 9 (.string x)) (hp:Boxed W Bp 94 (.slice ap ps.length capp)) (hap:0<ps.length→ap=some ⟨gp,0,none⟩) (hP:Pbk gp ps W) (hBt:Bt≠B) (hBp:Bp≠B) (hgB:0<ps.length→gp≠B) (h0:J [] W) :
  CallsIn Fence.wide n Tryz.prog 308 #[.func (.yield l) #[] #[],.pointer (some ⟨Bt,0,none⟩),.pointer (some ⟨Bp,0,none⟩)] W fun e W'=>(∃ v,e=.returned v) ∧
   ((∃ ys,ys=x :: Pl.syF x ps∧J ys W')∨(∃ pre,pre <+: x :: Pl.syF x ps∧Jx pre W')):=by
 obtain ⟨xs,hxs⟩:∃ xs,x :: Pl.syF x ps=xs:=⟨_,rfl⟩
 rw [hxs]
 have HXS:Hid (x :: Pl.syF x ps=xs):=hxs
 have hlx:xs.length≤ps.length+1:=by rw [← hxs];have:=Pl.syF_le x ps;simp only [List.length_cons];omega
 clear hxs
 refine callsIn_of_wp Tryz.func308 rfl trivial ?_ rfl
 simp only [Tryz.ntmps308,List.size_toArray,List.length_cons,List.length_nil,Nat.reduceAdd,Nat.reduceSub,Array.replicate_succ,Array.replicate_zero,List.push_toArray,List.append_toArray,List.nil_append,List.cons_append]
 obtain ⟨fn,tmps,assign,body,hy,hR⟩:=hY [] x W h0 (by simp;omega)
 simp only [encs1] at hy
 have ht0:=ht.cell
 gi_wp2_with fail
 refine hR.mono ?_
 rintro e W3 (⟨rfl,hJ3,hk3⟩ | ⟨rfl,hJx3⟩)
 ·have ht3:=hk3.boxed ht hBt (by decide)
  have hp3:=hk3.boxed hp hBp (by decide)
  have hP3:Pbk gp ps W3:=by
   by_cases hps:0<ps.length
   ·exact hP.keepE hk3 (hgB hps)
   ·exact hP.same fun h=>absurd h hps
  have hs3:=hk3.size
  have hp30:=hp3.cell
  gi_wp2
  gi_loopw [12] (fun b wr=>∃ (k:Nat) (pre:List ByteArray),b=.int .i64 (k:Int)∧k≤ps.length∧Hid (pre++Pl.syF x (ps.drop k)=xs)∧Boxed wr Bt 9 (.string x)∧Pbk gp ps wr∧W.heap.size≤wr.heap.size∧J pre wr) (fun b _=>ps.length - (intOf b).toNat)
  case atStart=>exact ⟨0,[x],rfl,by omega,HXS,ht3,hP3,hs3,hJ3⟩
  case round =>
   obtain ⟨k,pre,rfl,hk,HX,htr,hPr,hsr,hJr⟩:=hrel
   by_cases hlt:k<ps.length
   ·have hltI:(k:Int)<(ps.length:Int):=by omega
    obtain rfl:=hap (by omega)
    obtain ⟨p0,p1⟩:=hPr.row.c k hlt
    obtain ⟨⟨pl,pr⟩,hpk⟩:∃ z,ps[k]=z:=⟨_,rfl⟩
    have hd:ps.drop k=(pl,pr) :: ps.drop (k+1):=by rw [← hpk];exact List.drop_eq_getElem_cons hlt
    rw [hpk] at p0 p1
    simp only at p0 p1
    have hH:=HX.out
    rw [hd,Pl.syF] at hH
    have htA:=htr.alloc (.cells #[.string pl,.string pr] 357)
    have hPA:=hPr.alloc (.cells #[.string pl,.string pr] 357)
    have hJA:J pre (wr.alloc (.cells #[.string pl,.string pr] 357)):=hJ pre wr _ none hJr (World.grownBy_alloc _ _ _) (fun r e=>by cases e)
    have tA:=htA.cell
    clear hd hpk HX
    cases hq:(pl.toList == x.toList) with
    | true =>
     rw [hq,if_pos rfl] at hH
     have HX2:Hid ((pre++[pr])++Pl.syF x (ps.drop (k+1))=xs):=by show _=_;rw [← hH];simp
     have hpre:pre.length<N:=by
      have:=congrArg List.length HX2.out
      simp only [List.length_append,List.length_cons,List.length_nil] at this
      omega
     clear hH
     obtain ⟨fn2,tmps2,assign2,body2,hy2,hR2⟩:=hY pre pr _ hJA hpre
     simp only [encs1] at hy2
     gi_wp2_with fail
     refine hR2.mono ?_
     rintro e W4 (⟨rfl,hJ4,hk4⟩ | ⟨rfl,hJx4⟩)
     ·gi_wp2
      go_roundw
      case rel=>exact ⟨k+1,pre++[pr],by go_num,by omega,HX2,hk4.boxed htA hBt (by decide),hPA.keepE hk4 (hgB (by omega)),by have:=hk4.size;simp at this;omega,hJ4⟩
      case measure=>simp [intOf];omega
     ·gi_wp2
      refine bodyPost_ret (results_none rfl _ _ _) rfl ?_
      exact ⟨⟨_,rfl⟩,.inr ⟨pre++[pr],⟨_,HX2.out⟩,hJx4⟩⟩
    | false =>
     rw [hq,if_neg (by simp)] at hH
     have HX2:Hid (pre++Pl.syF x (ps.drop (k+1))=xs):=hH
     clear hH
     gi_wp2
     refine ⟨(fun f h=>by cases h),?_⟩
     gi_wp2
     go_roundw
     case rel=>exact ⟨k+1,pre,by go_num,by omega,HX2,htA,hPA,by simp;omega,hJA⟩
     case measure=>simp [intOf];omega
   ·have hx:pre=xs:=by have:=HX.out;rw [List.drop_of_length_le (by omega)] at this;simpa [Pl.syF] using this
    have hltI:¬ (k:Int)<(ps.length:Int):=by omega
    gi_wp2
    go_end0
    refine ⟨⟨_,rfl⟩,.inl ?_⟩
    first | exact ⟨pre,hx,hJr⟩ | (rw [← hx];exact hJr)
 ·gi_wp2
  refine bodyPost_ret (results_none rfl _ _ _) rfl ?_
  exact ⟨⟨_,rfl⟩,.inr ⟨[x],⟨Pl.syF x ps,HXS.out⟩,hJx3⟩⟩
theorem withLike1_stops (n:Nat) (hn:1≤n) (Bt Bp B gp capp:Nat) (ap:Option Addr) (x:ByteArray) (ps:List (ByteArray × ByteArray)) (hpl:ps.length≤1000) (N:Nat) (hN:ps.length+1≤N) (w:World)
  (ht:Boxed w Bt 9 (.string x)) (hp:Boxed w Bp 94 (.slice ap ps.length capp)) (hap:0<ps.length→ap=some ⟨gp,0,none⟩) (hP:Pbk gp ps w) (hBt:Bt≠B) (hBp:Bp≠B) (hgB:0<ps.length→gp≠B) :
  SeqStopsK Fence.wide n Tryz.prog 308 #[.pointer (some ⟨Bt,0,none⟩),.pointer (some ⟨Bp,0,none⟩)] encs1 (KeepE B 27) (fun ys=>ys=x :: Pl.syF x ps) (fun pre=>pre <+: x :: Pl.syF x ps) N w:=fun l J Jx W hW hJ _ hY h0 =>
 withLike1_in n hn l Bt Bp B gp capp ap x ps hpl J Jx W hJ N hN hY (boxed_below ht hW) (boxed_below hp hW) hap (hP.same fun h=>by
  obtain ⟨c,fz,hc⟩:=hP.blk h
  exact hW.block gp (Array.getElem?_eq_some_iff.1 hc).1) hBt hBp hgB h0
theorem withLike_any (x:ByteArray) (v:Value) (w:World) (ap:Option Addr) (m capp:Nat) (hv:v=.slice ap m capp):Calls Tryz.prog 212 #[.string x,v] w fun e w' =>
  e=.returned (.func (.func 308) #[] #[.pointer (some ⟨w.heap.size,0,none⟩),.pointer (some ⟨w.heap.size+1,0,none⟩)])∧w'=(w.alloc (.cells #[.string x] 9)).alloc (.cells #[.slice ap m capp] 94):=by
 subst hv
 go_enter Tryz.func212,Tryz.ntmps212
 go_wp2
 go_ret
 exact ⟨rfl,rfl⟩
end Go.Proofs.YtcmgclckknpecaaGreatDoor
namespace Go.Proofs.YtcmgclckknpecaaGreatDoor
open Go.Lib
def Pl.okc (c:Nat):Prop:=c<55296∨(57344≤c∧c≤1114111)
theorem u8nat (x:Nat) (h:x<256):(x.toUInt8).toNat=x:=by
 simp [Nat.toUInt8];omega
theorem get_behind (pre l:List UInt8) (j:Nat):(⟨(pre++l).toArray⟩:ByteArray).get! (pre.length+j)=l.getD j 0:=by
 rw [← getD_get!']
 simp [List.getD,List.getElem?_append_right]
set_option maxHeartbeats 4000000 in
theorem decode_enc (c:Nat) (hc:Pl.okc c) (pre post:List UInt8):Utf8.decode ⟨(pre++(encodeRune (c:Int)++post)).toArray⟩ pre.length=(c,(encodeRune (c:Int)).length):=by
 have hsz:(⟨(pre++(encodeRune (c:Int)++post)).toArray⟩:ByteArray).size - pre.length=(encodeRune (c:Int)).length+post.length:=by
  simp [ByteArray.size]
 have g0:=get_behind pre (encodeRune (c:Int)++post) 0
 rw [Nat.add_zero] at g0
 rw [decode_at,hsz,g0,get_behind,get_behind,get_behind]
 unfold Pl.okc at hc
 by_cases h1:c≤127
 ·have e:encodeRune (c:Int)=[c.toUInt8]:=by
   rw [encodeRune,encodeRuneZ_one (by omega) (by omega)];simp
  rw [e]
  simp only [List.cons_append,List.nil_append,List.getD_cons_zero,List.length_cons,List.length_nil]
  rw [u8nat c (by omega),decodeN,if_pos (by omega)]
 ·by_cases h2:c≤2047
  ·have e:encodeRune (c:Int)=[(192+c / 64).toUInt8,(128+c % 64).toUInt8]:=by
    rw [encodeRune,encodeRuneZ_two (by omega) (by omega)]
    simp only [List.map_cons,List.map_nil]
    congr 2
   rw [e]
   simp only [List.cons_append,List.nil_append,List.getD_cons_zero,List.getD_cons_succ,List.length_cons,List.length_nil]
   rw [u8nat _ (by omega),u8nat _ (by omega),decodeN,if_neg (by omega),if_pos (by omega),if_pos (by omega)]
   apply Prod.ext <;> simp only <;> omega
  ·by_cases h3:c≤65535
   ·have e:encodeRune (c:Int)=[(224+c / 4096).toUInt8,(128+c / 64 % 64).toUInt8,(128+c % 64).toUInt8]:=by
     rw [encodeRune,encodeRuneZ_three (by omega)]
     simp only [List.map_cons,List.map_nil]
     congr 2
    rw [e]
    simp only [List.cons_append,List.nil_append,List.getD_cons_zero,List.getD_cons_succ,List.length_cons,List.length_nil]
    rw [u8nat _ (by omega),u8nat _ (by omega),u8nat _ (by omega),decodeN,if_neg (by omega),if_neg (by omega),if_pos (by omega),if_pos (by omega)]
    apply Prod.ext <;> simp only <;> omega
   ·have e:encodeRune (c:Int)=[(240+c / 262144).toUInt8,(128+c / 4096 % 64).toUInt8,(128+c / 64 % 64).toUInt8,(128+c % 64).toUInt8]:=by
     rw [encodeRune,encodeRuneZ_four (by omega) (by omega)]
     simp only [List.map_cons,List.map_nil]
     congr 2
    rw [e]
    simp only [List.cons_append,List.nil_append,List.getD_cons_zero,List.getD_cons_succ,List.length_cons,List.length_nil]
    rw [u8nat _ (by omega),u8nat _ (by omega),u8nat _ (by omega),u8nat _ (by omega),decodeN,if_neg (by omega),if_neg (by omega),if_neg (by omega),if_pos (by omega),if_pos (by omega)]
    apply Prod.ext <;> simp only <;> omega
def Pl.eb (cs:List Nat):List UInt8:=cs.flatMap fun c:Nat=>encodeRune (c:Int)
def Pl.en (cs:List Nat):ByteArray:=⟨(Pl.eb cs).toArray⟩
theorem Pl.eb_nil:Pl.eb []=[]:=rfl
theorem Pl.eb_cons (c:Nat) (r:List Nat):Pl.eb (c :: r)=encodeRune (c:Int)++Pl.eb r:=rfl
theorem Pl.eb_append (a b:List Nat):Pl.eb (a++b)=Pl.eb a++Pl.eb b:=by simp [Pl.eb]
theorem enc_pos (c:Nat):1≤(encodeRune (c:Int)).length∧(encodeRune (c:Int)).length≤4:=by
 have:=encodeRuneZ_length (c:Int)
 simpa [encodeRune] using this
theorem Pl.en_size (cs:List Nat):(Pl.en cs).size=(Pl.eb cs).length:=by simp [Pl.en,ByteArray.size]
theorem Pl.eb_le:∀ cs:List Nat,cs.length≤(Pl.eb cs).length∧(Pl.eb cs).length≤4*cs.length
 | []=>by simp [Pl.eb]
 | c :: r=>by
  have:=Pl.eb_le r
  have:=enc_pos c
  rw [Pl.eb_cons,List.length_append,List.length_cons]
  omega
theorem Pl.decode_en (pre:List Nat) (c:Nat) (post:List Nat) (hc:Pl.okc c):Utf8.decode (Pl.en (pre++c :: post)) (Pl.eb pre).length=(c,(encodeRune (c:Int)).length):=by
 have:=decode_enc c hc (Pl.eb pre) (Pl.eb post)
 rw [← this,Pl.en,Pl.eb_append,Pl.eb_cons]
def Pl.dcFrom (s:ByteArray):Nat→Nat→List Nat
 | 0,_=>[]
 | m+1,pos=>if pos<s.size then (Utf8.decode s pos).1 :: Pl.dcFrom s m (pos+(Utf8.decode s pos).2) else []
def Pl.dc (s:ByteArray):List Nat:=Pl.dcFrom s s.size 0
theorem Pl.dcFrom_en (cs:List Nat) (hc:∀ c∈cs,Pl.okc c):∀ (post pre:List Nat) (m:Nat),pre++post=cs→(Pl.eb post).length≤m→Pl.dcFrom (Pl.en cs) m (Pl.eb pre).length=post
 | [],pre,m,h,hm=>by
  rw [List.append_nil] at h
  subst h
  cases m with
  | zero=>rfl
  | succ m=>rw [Pl.dcFrom,if_neg (by rw [Pl.en_size];omega)]
 | c :: r,pre,m,h,hm=>by
  have hp:=enc_pos c
  rw [Pl.eb_cons,List.length_append] at hm
  obtain ⟨m',rfl⟩:∃ m',m=m'+1:=⟨m - 1,by omega⟩
  have hlt:(Pl.eb pre).length<(Pl.en cs).size:=by
   rw [Pl.en_size,← h,Pl.eb_append,Pl.eb_cons]
   simp only [List.length_append];omega
  have hd:=Pl.decode_en pre c r (hc c (by rw [← h];simp))
  rw [h] at hd
  have ih:=Pl.dcFrom_en cs hc r (pre++[c]) m' (by simpa using h) (by omega)
  have hl:(Pl.eb (pre++[c])).length=(Pl.eb pre).length+(encodeRune (c:Int)).length:=by rw [Pl.eb_append,List.length_append];simp [Pl.eb]
  rw [Pl.dcFrom,if_pos hlt,hd]
  simp only
  rw [← hl,ih]
theorem Pl.dc_en (cs:List Nat) (hc:∀ c∈cs,Pl.okc c):Pl.dc (Pl.en cs)=cs:=by
 have:=Pl.dcFrom_en cs hc cs [] (Pl.en cs).size rfl (by rw [Pl.en_size];exact Nat.le_refl _)
 simpa [Pl.dc,Pl.eb] using this
end Go.Proofs.YtcmgclckknpecaaGreatDoor
