import Derived.Test.YtcmgclckknpecaaGreatDoorKad
import Derived.OwnWalk
import Derived.Test.YtcmgclckknpecaaGreatDoorKab
import Derived.Shelf.Unicode.ValidAny
import Derived.Shelf.Utf8.AppendRune
import Derived.Lib.Bytealg
import Derived.Lib.IndexLaws
import Derived.Lib.IndexBytes
namespace Go.Proofs.YtcmgclckknpecaaGreatDoor
open Go.RowKit Go.Shelf
theorem u5i:Tryz.prog.underlying 5=some (.int .u8):=by kernel_rfl
theorem bufCells {B:Nat} {e:TypeId} {v:Value} {l:List Int} {W0 w:World} (h:Lib.OwnBuf B e v (0+l.length) ([]++Lib.intCells l) W0 w) (hl:0<l.length) :
  ∃ g cap,v=.slice (some ⟨g,0,none⟩) l.length cap∧∀ i,i<l.length→w.cell? ⟨g,0+i,none⟩=some (.int .u8 (l.getD i 0)):=by
 rcases h.1.2 with ⟨_,h0⟩ | ⟨g,cap,cur,fz,hv,_⟩
 ·omega
 ·rw [Nat.zero_add] at hv
  refine ⟨g,cap,hv,fun i hi=>?_⟩
  have h2:=h.1.cells (g:=g) (by rw [hv];simp [Value.ownBlock]) i (.int .u8 (l.getD i 0)) (by simp [Lib.intCells,List.getD,List.getElem?_eq_getElem hi])
  by_cases hi0:i=0 <;> simpa [Addr.add,hi0] using h2
set_option maxHeartbeats 4000000 in
theorem quotew_any (s:ByteArray) (w:World) (hlen:10*s.size+12≤140737488355328) (hU:Lib.Utf8Tabs 5 6 w) :
  Calls Tryz.prog 177 #[.string s,.int .u8 34,.bool true,.bool false] w fun e w'=>e=.returned (.string (strOfNums (Pl.quo s)))∧Below w.heap.size w w':=by
 obtain ⟨i0,hi,hz0,hz1,hz2⟩:=info5
 obtain ⟨c,hc⟩:∃ c,c=3*s.size / 2:=⟨_,rfl⟩
 have hcI:3*(s.size:Int) / 2=(c:Int):=by omega
 have hw3:wrap64 (3*(s.size:Int))=3*(s.size:Int):=by unfold wrap64;omega
 have hc1:s.size≤c:=by omega
 have hc2:c≤140737488355328:=by omega
 have HQ:Hid (∀ w1,Lib.OwnBuf w.heap.size 5 (.slice (some ⟨w.heap.size,0,none⟩) 0 c) 0 [] w w1→Calls Tryz.prog 276 #[.slice (some ⟨w.heap.size,0,none⟩) 0 c,.string s,.int .u8 34,.bool true,.bool false] w1 fun e w'=>∃ v',e=.returned v'∧Lib.OwnBuf w.heap.size 5 v' (0+(Pl.quo s).length) ([]++Lib.intCells (Pl.quo s)) w w') :=
  fun w1 hb=>quoted_any _ 0 c [] s w w1 hb (by omega) (by omega) (by omega) hU
 have Hc:Hid (c=3*s.size / 2):=hc
 clear hc hU
 go_enter Tryz.func177,Tryz.ntmps177
 go_wp2_with (first
  | (at_make;refine wpList_make_own _ rfl _ _ 164 rfl w.heap.size 5 i0 (.int .u8 0) 1 u164 hi hz0 hz1 _ _ _ c rfl rfl (by first | rfl | assumption) (by rw [hz2];omega) (by unfold maxLen;omega) (Nat.le_refl _) ?_;intro w1 hown hg))
 refine (HQ.out _ ⟨World.ownsRowF_of hown,(Below.refl _ _).grown hg (Nat.le_refl _) (by intro k hk;cases hk),hg.size⟩).mono ?_
 rintro e w2 ⟨v2,rfl,hb2⟩
 obtain ⟨g,cap,rfl,hcells⟩:=bufCells hb2 (by simp [Pl.quo])
 have hcv:=run_convert_bytes_arg w2 164 5 u164 u5i g 0 _ cap (Pl.quo s) rfl hcells 9 u9s
 go_wp2_with fail
 go_ret
 exact ⟨rfl,hb2.2.1⟩
theorem quoteA_any (s:ByteArray) (w:World) (hlen:10*s.size+12≤140737488355328) (hU:Lib.Utf8Tabs 5 6 w) :
  Calls Tryz.prog 119 #[.string s] w fun e w'=>e=.returned (.string (strOfNums (Pl.quo s)))∧Below w.heap.size w w':=by
 have cW:=quotew_any s w hlen hU
 clear hU
 go_enter Tryz.func119,Tryz.ntmps119
 go_wp2_with fail
 refine cW.mono ?_
 rintro e w2 ⟨rfl,hb⟩
 go_wp2_with fail
 go_ret
 exact ⟨rfl,hb⟩
end Go.Proofs.YtcmgclckknpecaaGreatDoor
namespace Go.Proofs.YtcmgclckknpecaaGreatDoor
open Go.RowKit Go.Shelf
theorem ib_lt (c:UInt8):∀ l:List UInt8,Lib.indexByte l c<l.length
 | []=>by simp [Lib.indexByte]
 | b :: l=>by
  have h1:=ib_lt c l
  have h2:=Lib.indexByte_ge l c
  unfold Lib.indexByte
  simp only [List.length_cons]
  split
  ·omega
  ·split
   ·omega
   ·omega
structure IxO (s:ByteArray) (c:Int) (e:Ending):Prop where
 ex:∃ i:Int,e=.returned (.int .i64 i)∧-1≤i∧i<s.size∧Lib.indexByte s.data.toList c.toNat.toUInt8=i
set_option maxRecDepth 100000 in
theorem sidx_any (s:ByteArray) (c:Int) (w:World):Calls Tryz.prog 395 #[.string s,.int .u8 c] w fun e w'=>IxO s c e∧w'=w:=by
 have h1:=ib_lt c.toNat.toUInt8 s.data.toList
 have h2:=Lib.indexByte_ge s.data.toList c.toNat.toUInt8
 have h3:s.data.toList.length=s.size:=by rw [Array.length_toList];rfl
 rw [h3] at h1
 have hc:∀ w,(callFunc 350 #[.string s,.int .u8 c]).run Tryz.prog w=.ok (.value (.int .i64 (Lib.indexByte s.data.toList c.toNat.toUInt8))) w:=by
  intro w
  rw [run_callFunc_extern Tryz.func350 (by kernel_rfl) (by kernel_rfl) (by kernel_rfl) (e:=Extern.BytealgIndexByte.indexByte) (by kernel_rfl),Lib.run_indexByteString]
  rfl
 obtain ⟨i,hi⟩:∃ i,Lib.indexByte s.data.toList c.toNat.toUInt8=i:=⟨_,rfl⟩
 rw [hi] at h1 h2 hc
 have Hi:Hid (Lib.indexByte s.data.toList c.toNat.toUInt8=i):=hi
 clear hi
 go_enter Tryz.func395,Tryz.ntmps395
 go_wp2
 go_ret
 exact ⟨⟨i,rfl,h2,h1,Hi.out⟩,rfl⟩
structure CnO (s:ByteArray) (c:Int) (e:Ending):Prop where
 ex:∃ b:Bool,e=.returned (.bool b)∧(b=true→Lib.indexByte s.data.toList c.toNat.toUInt8≠-1)
theorem scont_any (s:ByteArray) (c:Int) (w:World):Calls Tryz.prog 396 #[.string s,.int .u8 c] w fun e w'=>CnO s c e∧w'=w:=by
 go_enter Tryz.func396,Tryz.ntmps396
 go_wp2_with fail
 refine (sidx_any s c _).mono ?_
 rintro e w1 ⟨⟨i,rfl,-,-,hi⟩,rfl⟩
 have Hi:Hid (Lib.indexByte s.data.toList c.toNat.toUInt8=i):=hi
 clear hi
 by_cases h:i = -1
 ·subst h
  go_wp2_with fail
  go_ret
  exact ⟨⟨_,rfl,by simp⟩,rfl⟩
 ·go_wp2_with fail
  go_ret
  exact ⟨⟨_,rfl,fun _=>by rw [Hi.out];exact h⟩,rfl⟩
theorem ib_none (s:ByteArray) (h2:2≤s.size) (hc0:(s[0]'(by omega)).toNat=96) (h0:Lib.indexByte (s.extract 1 s.size).data.toList (96:Int).toNat.toUInt8=0):Lib.indexByte (s.extract 0 (0+2)).data.toList (13:Int).toNat.toUInt8 = -1:=by
 have g0:s.data.toList[0]?=some (s[0]'(by omega)):=List.getElem?_eq_getElem (by rw [Array.length_toList];show 0<s.size;omega)
 have h1:=(Lib.indexByte_some (o:=0) h0).1
 have e1:(s.extract 1 s.size).data.toList=s.data.toList.drop 1:=Lib.extract_to_end s 1
 have e2:(s.extract 0 (0+2)).data.toList=s.data.toList.take 2:=by
  simp [ByteArray.data_extract]
 rw [e1,List.getElem?_drop] at h1
 by_cases hn:Lib.indexByte (s.extract 0 (0+2)).data.toList (13:Int).toNat.toUInt8 = -1
 ·exact hn
 ·exfalso
  have hge:=Lib.indexByte_ge (s.extract 0 (0+2)).data.toList (13:Int).toNat.toUInt8
  have hlt:=ib_lt (13:Int).toNat.toUInt8 (s.extract 0 (0+2)).data.toList
  obtain ⟨j,hj⟩:∃ j:Nat,Lib.indexByte (s.extract 0 (0+2)).data.toList (13:Int).toNat.toUInt8=(j:Int):=⟨(Lib.indexByte (s.extract 0 (0+2)).data.toList (13:Int).toNat.toUInt8).toNat,by omega⟩
  have h3:=(Lib.indexByte_some (o:=j) hj).1
  rw [e2] at h3 hlt
  have hl2:(s.data.toList.take 2).length≤2:=by simp;omega
  rw [e2] at hj
  rw [hj] at hlt
  have:j=0∨j=1:=by omega
  rcases this with rfl | rfl
  ·rw [List.getElem?_take,if_pos (by omega),g0] at h3
   injection h3 with h3
   rw [h3] at hc0
   revert hc0
   decide
  ·rw [List.getElem?_take,if_pos (by omega)] at h3
   rw [h3] at h1
   revert h1
   decide
theorem bufStr {B:Nat} {v:Value} {l:List Int} {W0 w:World} (h:Lib.OwnBuf B 5 v l.length (Lib.intCells l) W0 w):∃ (o:ByteArray) (p:Option Addr) (c:Nat),v=.slice p l.length c∧o.size=l.length∧(convert 164 9 (.slice p l.length c)).run Tryz.prog w=.ok (.string o) w:=by
 rcases h.1.2 with ⟨h0,h1⟩ | ⟨g,cap,cur,fz,hv,_⟩
 ·refine ⟨ByteArray.empty,none,0,by rw [h0,h1],by rw [h1];rfl,?_⟩
  exact run_convert_bytes_nil w 164 5 u164 u5i _ _ 9 u9s
 ·refine ⟨strOfNums l,some ⟨g,0,none⟩,cap,hv,strOfNums_size l,?_⟩
  refine run_convert_bytes_arg w 164 5 u164 u5i g 0 _ cap l rfl (fun i hi=>?_) 9 u9s
  have h2:=h.1.cells (g:=g) (by rw [hv];simp [Value.ownBlock]) i (.int .u8 (l.getD i 0)) (by simp [Lib.intCells,List.getD,List.getElem?_eq_getElem hi])
  by_cases hi0:i=0 <;> simpa [Addr.add,hi0] using h2
def ren196:Ren:=⟨fun | 196=>397 | 259=>422 | n=>n,fun | 119=>508 | 46=>344 | 139=>511 | 138=>510 | 53=>326 | n=>n,fun | 3=>5 | 4=>6 | n=>n⟩
theorem lays196:Lays.n196 Tryz.prog ren196 :=
 {mixed:=by kernel_rfl,f196:=by kernel_rfl,f259:=by kernel_rfl,t0:=by kernel_rfl,a0:=fun _=>by kernel_rfl,z0:=fun _=>by kernel_rfl,v0:=fun _=>by kernel_rfl,t3:=by kernel_rfl,a3:=fun _=>by kernel_rfl,z3:=fun _=>by kernel_rfl,v3:=fun _=>by kernel_rfl,t4:=by kernel_rfl,a4:=fun _=>by kernel_rfl,z4:=fun _=>by kernel_rfl,v4:=fun _=>by kernel_rfl,t5:=by kernel_rfl,a5:=fun _=>by kernel_rfl,z5:=fun _=>by kernel_rfl,v5:=fun _=>by kernel_rfl,t9:=by kernel_rfl,a9:=fun _=>by kernel_rfl,z9:=fun _=>by kernel_rfl,v9:=fun _=>by kernel_rfl,t12:=by kernel_rfl,a12:=fun _=>by kernel_rfl,z12:=fun _=>by kernel_rfl,v12:=fun _=>by kernel_rfl,t46:=by kernel_rfl,a46:=fun _=>by kernel_rfl,z46:=fun _=>by kernel_rfl,v46:=fun _=>by kernel_rfl,t53:=by kernel_rfl,a53:=fun _=>by kernel_rfl,z53:=fun _=>by kernel_rfl,v53:=fun _=>by kernel_rfl,t119:=by kernel_rfl,a119:=fun _=>by kernel_rfl,z119:=fun _=>by kernel_rfl,t138:=by kernel_rfl,a138:=fun _=>by kernel_rfl,z138:=fun _=>by kernel_rfl,v138:=fun _=>by kernel_rfl,t139:=by kernel_rfl,a139:=fun _=>by kernel_rfl,z139:=fun _=>by kernel_rfl,v139:=fun _=>by kernel_rfl,g3:=by kernel_rfl,g4:=by kernel_rfl }
theorem validS_any (s:ByteArray) (hs:s.size≤9223372036854775807) (w:World) (hU:Lib.Utf8Tabs 5 6 w):Calls Tryz.prog 397 #[.string s] w fun e w'=>YnO e∧Below w.heap.size w w' :=
 (Any.utf8_ValidString lays196 s w hs hU).mono fun _ _ h=>⟨⟨⟨_,h.1⟩⟩,h.2⟩
theorem lays242:Lays.n242 Tryz.prog ren72 :=
 {mixed:=by kernel_rfl,f242:=by kernel_rfl,f278:=by kernel_rfl,t4:=by kernel_rfl,a4:=fun _=>by kernel_rfl,z4:=fun _=>by kernel_rfl,v4:=fun _=>by kernel_rfl,t5:=by kernel_rfl,a5:=fun _=>by kernel_rfl,z5:=fun _=>by kernel_rfl,v5:=fun _=>by kernel_rfl,t21:=by kernel_rfl,a21:=fun _=>by kernel_rfl,z21:=fun _=>by kernel_rfl,v21:=fun _=>by kernel_rfl,t37:=by kernel_rfl,a37:=fun _=>by kernel_rfl,z37:=fun _=>by kernel_rfl,v37:=fun _=>by kernel_rfl,t46:=by kernel_rfl,a46:=fun _=>by kernel_rfl,z46:=fun _=>by kernel_rfl,v46:=fun _=>by kernel_rfl,t51:=by kernel_rfl,a51:=fun _=>by kernel_rfl,z51:=fun _=>by kernel_rfl,v51:=fun _=>by kernel_rfl }
theorem appendRune_any (B:Nat) (v:Value) (n:Nat) (xs:List Value) (r:Int) (hr0:-2147483648≤r) (hr1:r≤2147483647) (w:World) (hown:w.ownsRowF B 5 1 v n xs) (hlen:n+4≤140737488355328) (hBw:B≤w.heap.size) :
  Calls Tryz.prog 312 #[v,.int .i32 r] w fun e w'=>∃ v',e=.returned v'∧w'.ownsRowF B 5 1 v' (n+(Lib.runeCells r).length) (xs++Lib.runeCells r)∧∃ o,(w.alloc o).grownBy w' v.ownBlock :=
 Any.utf8_AppendRune_row lays242 (by kernel_rfl) B v n xs r hr0 hr1 w hown hlen hBw
end Go.Proofs.YtcmgclckknpecaaGreatDoor
namespace Go.Proofs.YtcmgclckknpecaaGreatDoor
open Go.RowKit Go.Shelf
structure UnO (u:Bool) (s:ByteArray) (e:Ending):Prop where
 ex:∃ (o r:ByteArray) (er:Value),e=.returned (.tuple #[.string o,.string r,er])∧o.size≤4*s.size∧((∃ te pe,er=.iface te pe)∨(er=.nilIface∧(u=false→1≤o.size∧o.size≤s.size)))
theorem UnO.err (u:Bool) (s:ByteArray) (r:ByteArray) (te:TypeId) (pe:Value):UnO u s (.returned (.tuple #[.string ⟨#[]⟩,.string r,.iface te pe])):=⟨⟨⟨#[]⟩,r,_,rfl,Nat.zero_le _,.inl ⟨te,pe,rfl⟩⟩⟩
theorem UnO.part (u:Bool) (s o r:ByteArray) (h1:1≤o.size) (h2:o.size≤s.size):UnO u s (.returned (.tuple #[.string o,.string r,.nilIface])):=⟨⟨o,r,_,rfl,by omega,.inr ⟨rfl,fun _=>⟨h1,h2⟩⟩⟩⟩
theorem UnO.text (s o r:ByteArray) (h:o.size≤4*s.size):UnO true s (.returned (.tuple #[.string o,.string r,.nilIface])):=⟨⟨o,r,_,rfl,h,.inr ⟨rfl,fun h=>nomatch h⟩⟩⟩
theorem results_three' {fn:Func} {t u v:Tmp} (h:fn.results=#[.tmp t,.tmp u,.tmp v]) (tmps:Array Value) (P:Program) (w:World):(results fn tmps).run P w=.ok (.tuple #[tmps.getD t undef,tmps.getD u undef,tmps.getD v undef]) w:=by simp [results,h]
theorem ext_le (s:ByteArray) (a b:Nat):(s.extract a b).size≤s.size:=by rw [ByteArray.size_extract];omega
theorem below_drewN {B:Nat} {a w:World} (h:Below B a w):∀ q,Below B a (w.drewN q)
 | 0=>h
 | q+1=>(below_drewN h q).drew
set_option maxRecDepth 100000 in
set_option maxHeartbeats 4000000 in
theorem unq_small (u:Bool) (s:ByteArray) (w:World) (hT:Tbr w) (h0:s.size<2):Calls Tryz.prog 357 #[.string s,.bool u] w fun e w'=>UnO u s e∧Below w.heap.size w w':=by
 obtain ⟨te,pe,he⟩:=hT.s
 have h1:(s.size:Int)<2:=by omega
 go_enter Tryz.func357,Tryz.ntmps357
 go_wp2_with fail
 go_quiet (fail)
 go_wp2_with fail
 (try simp only [Exit.inBlock,Exit.then])
 refine bodyPost_ret (results_three' rfl _ _ _) rfl ?_
 exact ⟨UnO.err _ _ _ _ _,⟨rfl,rfl,rfl,Nat.le_refl _,fun _ _=>rfl⟩⟩
set_option maxRecDepth 100000 in
set_option maxHeartbeats 4000000 in
theorem unq_other (u:Bool) (s:ByteArray) (w:World) (hT:Tbr w) (h0:2≤s.size) (c:Nat) (hc0:(s[0]'(by omega)).toNat=c) (h96:c≠96) (h34:c≠34) (h39:c≠39):Calls Tryz.prog 357 #[.string s,.bool u] w fun e w'=>UnO u s e∧Below w.heap.size w w':=by
 obtain ⟨te,pe,he⟩:=hT.s
 have h1:¬ (s.size:Int)<2:=by omega
 have h2:(0:Int)<(s.size:Int):=by omega
 have h3:(1:Int)≤(s.size:Int):=by omega
 have hc:((s[0]'(by omega)).toNat:Int)=(c:Int):=by omega
 have e1:((c:Int) == 96)=false:=beq_eq_false_iff_ne.mpr (by omega)
 have e2:((c:Int) == 34)=false:=beq_eq_false_iff_ne.mpr (by omega)
 have e3:((c:Int) == 39)=false:=beq_eq_false_iff_ne.mpr (by omega)
 have hbnd:s.size≤9223372036854775807∨True:=.inr trivial
 clear hc0
 go_enter Tryz.func357,Tryz.ntmps357
 go_wp2_with fail
 refine (sidx_any _ _ _).mono ?_
 rintro e w1 ⟨⟨i,rfl,hi1,hi2,-⟩,rfl⟩
 by_cases hi:i<0
 ·go_wp2_with fail
  go_quiet (fail)
  go_wp2_with fail
  (try simp only [Exit.inBlock,Exit.then])
  refine bodyPost_ret (results_three' rfl _ _ _) rfl ?_
  exact ⟨UnO.err _ _ _ _ _,⟨rfl,rfl,rfl,Nat.le_refl _,fun _ _=>rfl⟩⟩
 ·go_wp2_with fail
  go_quiet (fail)
  go_wp2_with fail
  (try simp only [Exit.inBlock,Exit.then])
  refine bodyPost_ret (results_three' rfl _ _ _) rfl ?_
  exact ⟨UnO.err _ _ _ _ _,⟨rfl,rfl,rfl,Nat.le_refl _,fun _ _=>rfl⟩⟩
set_option maxRecDepth 100000 in
set_option maxHeartbeats 4000000 in
theorem unq_backf (s:ByteArray) (hsz:s.size≤1000000000000) (w:World) (hT:Tbr w) (h0:2≤s.size) (hc0:(s[0]'(by omega)).toNat=96):Calls Tryz.prog 357 #[.string s,.bool false] w fun e w'=>UnO false s e∧Below w.heap.size w w':=by
 obtain ⟨te,pe,he⟩:=hT.s
 have h1:¬ (s.size:Int)<2:=by omega
 have h2:(0:Int)<(s.size:Int):=by omega
 have h3:(1:Int)≤(s.size:Int):=by omega
 have hc:((s[0]'(by omega)).toNat:Int)=96:=by omega
 clear hc0
 go_enter Tryz.func357,Tryz.ntmps357
 go_wp2_with fail
 refine (sidx_any _ _ _).mono ?_
 rintro e w1 ⟨⟨i,rfl,hi1,hi2,-⟩,rfl⟩
 rw [Lib.size_rest] at hi2
 by_cases hi:i<0
 ·go_wp2_with fail
  go_quiet (fail)
  go_wp2_with fail
  (try simp only [Exit.inBlock,Exit.then])
  refine bodyPost_ret (results_three' rfl _ _ _) rfl ?_
  exact ⟨UnO.err _ _ _ _ _,⟨rfl,rfl,rfl,Nat.le_refl _,fun _ _=>rfl⟩⟩
 ·obtain ⟨k,rfl⟩:∃ k:Nat,i=(k:Int):=⟨i.toNat,by omega⟩
  have hw:wrap64 ((k:Int)+2)=((k+2:Nat):Int):=by unfold wrap64;omega
  have hk1:((k+2:Nat):Int)≤(s.size:Int):=by omega
  have hk0:(0:Int)≤((k+2:Nat):Int):=by omega
  have hsz2:(s.extract 0 (k+2)).size=k+2:=by simp;omega
  go_wp2_with fail
  go_quiet (fail)
  go_wp2_with fail
  (try simp only [Exit.inBlock,Exit.then])
  refine bodyPost_ret (results_three' rfl _ _ _) rfl ?_
  exact ⟨UnO.part _ _ _ _ (by omega) (by omega),⟨rfl,rfl,rfl,Nat.le_refl _,fun _ _=>rfl⟩⟩
set_option maxRecDepth 100000 in
set_option maxHeartbeats 8000000 in
theorem unq_backt (s:ByteArray) (hsz:s.size≤1000000000000) (w:World) (hT:Tbr w) (h0:2≤s.size) (hc0:(s[0]'(by omega)).toNat=96):Calls Tryz.prog 357 #[.string s,.bool true] w fun e w'=>UnO true s e∧Below w.heap.size w w':=by
 obtain ⟨i0,hi0,hz0,hz1,hz2⟩:=info5
 obtain ⟨te,pe,he⟩:=hT.s
 have h1:¬ (s.size:Int)<2:=by omega
 have h2:(0:Int)<(s.size:Int):=by omega
 have h3:(1:Int)≤(s.size:Int):=by omega
 have hc:((s[0]'(by omega)).toNat:Int)=96:=by omega
 have HC:Hid ((s[0]'(by omega)).toNat=96):=hc0
 clear hc0
 go_enter Tryz.func357,Tryz.ntmps357
 go_wp2_with fail
 refine (sidx_any _ _ _).mono ?_
 rintro e w1 ⟨⟨i,rfl,hi1,hi2,hi3⟩,rfl⟩
 rw [Lib.size_rest] at hi2
 have HI:Hid (Lib.indexByte (s.extract 1 s.size).data.toList (96:Int).toNat.toUInt8=i):=hi3
 clear hi3
 by_cases hi:i<0
 ·go_wp2_with fail
  go_quiet (fail)
  go_wp2_with fail
  (try simp only [Exit.inBlock,Exit.then])
  refine bodyPost_ret (results_three' rfl _ _ _) rfl ?_
  exact ⟨UnO.err _ _ _ _ _,⟨rfl,rfl,rfl,Nat.le_refl _,fun _ _=>rfl⟩⟩
 ·obtain ⟨k,rfl⟩:∃ k:Nat,i=(k:Int):=⟨i.toNat,by omega⟩
  have hw:wrap64 ((k:Int)+2)=((k+2:Nat):Int):=by unfold wrap64;omega
  have hk1:((k+2:Nat):Int)≤(s.size:Int):=by omega
  have hk0:(0:Int)≤((k+2:Nat):Int):=by omega
  go_wp2_with fail
  refine (scont_any _ _ _).mono ?_
  rintro e w2 ⟨⟨b,rfl,hb⟩,rfl⟩
  cases b
  ·clear hb
   go_wp2_with fail
   go_quiet (fail)
   go_wp2_with fail
   (try simp only [Exit.inBlock,Exit.then])
   refine bodyPost_ret (results_three' rfl _ _ _) rfl ?_
   exact ⟨UnO.text _ _ _ (Nat.le_trans (ext_le _ _ _) (by omega)),⟨rfl,rfl,rfl,Nat.le_refl _,fun _ _=>rfl⟩⟩
  ·have hkp:1≤k:=by
    by_cases hk:k=0
    ·subst hk
     exact absurd (ib_none s h0 HC.out HI.out) (hb rfl)
    ·omega
   clear hb
   go_wp2_with (first
    | (at_make;refine wpList_make_own _ rfl _ _ 164 rfl w2.heap.size 5 i0 (.int .u8 0) 1 u164 hi0 hz0 hz1 _ _ _ (k - 1) rfl rfl (by omega) (by rw [hz2];omega) (by unfold maxLen;omega) (Nat.le_refl _) ?_;intro w3 hown hg))
   have hb0:Lib.OwnBuf w2.heap.size 5 (.slice (some ⟨w2.heap.size,0,none⟩) 0 (k - 1)) 0 [] w2 w3:=⟨World.ownsRowF_of hown,(Below.refl _ _).grown hg (Nat.le_refl _) (by intro k hk;cases hk),hg.size⟩
   obtain ⟨B,hB⟩:∃ B,B=w2.heap.size:=⟨_,rfl⟩
   have HB:Hid (B=w2.heap.size):=hB
   have HB0:Hid (Lib.OwnBuf B 5 (.slice (some ⟨B,0,none⟩) 0 (k - 1)) 0 [] w2 w3):=by rw [hB];exact hb0
   rw [← hB]
   clear hb0 hown hg hB hk0 hk1 hw hi HC HI hc h2 h3 h1
   go_loopw [9,10] (fun v9 v10 wr=>∃ (q:Nat) (acc:List Int),v10=.int .i64 (q:Int)∧1≤q∧q≤k+1∧acc.length≤q∧Hid (Lib.OwnBuf B 5 v9 acc.length (Lib.intCells acc) w2 wr)) (fun _ v10 _=>k+1 - (intOf v10).toNat)
   case atStart=>exact ⟨1,[],rfl,by omega,by omega,Nat.zero_le _,HB0⟩
   case round =>
    obtain ⟨q,acc,rfl,hq1,hq2,hal,hbr⟩:=hrel
    by_cases hlt:q<k+1
    ·have hltI:(q:Int)<(k:Int)+2 - 1:=by omega
     have hqs:(q:Int)<(s.size:Int):=by omega
     by_cases hr:(s[q]'(by omega)).toNat=13
     ·have hrI:((s[q]'(by omega)).toNat:Int)=13:=by omega
      clear hr
      go_wp2_with fail
      go_roundw
      case rel=>exact ⟨q+1,acc,by go_num,by omega,by omega,by omega,hbr⟩
      case measure=>simp [intOf];omega
     ·have hrI:(((s[q]'(by omega)).toNat:Int) == 13)=false:=beq_eq_false_iff_ne.mpr (by omega)
      have hrJ:((s[q]'(by omega)).toNat:Int)≠13:=by omega
      clear hr
      have hb:=hbr.out
      go_big_wp2_with (at_builtin;refine Lib.wpList_append_byte rfl _ _ 164 rfl B 5 i0 u164 hi0 hz0 hz1 hz2 _ _ _ rfl w2 _ _ (by assumption) rfl (by omega) ?_;intro _ _ hb)
      go_roundw
      case rel=>exact ⟨q+1,acc++[_],by go_num,by omega,by omega,by simp;omega,by simpa [Hid,Lib.intCells] using hb⟩
      case measure=>simp [intOf];omega
    ·have hltI:¬ (q:Int)<(k:Int)+2 - 1:=by omega
     obtain ⟨o,p,c,rfl,ho,hcv⟩:=bufStr hbr.out
     have hBl:Below w2.heap.size w2 wr:=by have:=hbr.out.2.1;rwa [HB.out] at this
     have HBl:Hid (Below w2.heap.size w2 wr):=hBl
     have hk1:((k+2:Nat):Int)≤(s.size:Int):=by omega
     have hos:o.size≤4*s.size:=by omega
     clear hBl hbr HB0
     go_wp2_with fail
     go_quiet (fail)
     go_wp2_with fail
     (try simp only [Exit.inBlock,Exit.then])
     refine bodyPost_ret (results_three' rfl _ _ _) rfl ?_
     exact ⟨UnO.text _ _ _ hos,below_drewN HBl.out _⟩
end Go.Proofs.YtcmgclckknpecaaGreatDoor
