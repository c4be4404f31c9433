/- errors.As at a struct that is an error, and the fault that an error tells (after Derived/Test/ToyasAs, which has a pointer). -/
import Derived.Test.YtpaneomkphjpcaaGreatDoorPaOne
import Derived.LaidEql
import Derived.Stop.Asserts
import Derived.RowKitTokens
namespace Go.Proofs.YtpaneomkphjpcaaGreatDoor
open Go.RowKit Go.Extern.Stop Go.Stop Go.Extern
set_option linter.unusedVariables false
set_option linter.unusedSimpArgs false
theorem as_nil (t:Value) (w:World) :
  Calls Tryz.prog 71 #[.nilIface,t] w fun e w'=>e=.returned (.bool false)∧w'=w:=by
 go_enter Tryz.func71,Tryz.ntmps71
 go_wp2
 go_ret
 exact⟨rfl,rfl⟩
theorem rx_valueOfP (t:Addr) (w:World):(ReflectliteValue.unpack (.iface 127 (.pointer (some t)))).run Tryz.prog w
  = .ok (.agg #[.pointer (some ⟨4,127,none⟩),.pointer (some ⟨w.heap.size,0,none⟩),.int .u64 150]) (w.alloc (.cells #[.pointer (some t)] 127)):=by kernel_rfl
theorem rx_typeP (a : Addr) (w : World) : (ReflectliteValue.methodAny (ReflectliteValue.valueError "reflectlite.Value.Type" 0) (fun t _ _ _ => ReflectliteType.toType t) #[.agg #[.pointer (some ⟨4, 127, none⟩), .pointer (some a), .int .u64 150]]).run Tryz.prog w
  = .ok (.iface 188 (.agg #[.pointer (some ⟨4,127,none⟩)])) w:=by kernel_rfl
theorem rx_methodKind (h : Value) (w : World) : (Go.method 372 188 (.agg #[h]) "Kind").run Tryz.prog w = .ok (226, h) w := by kernel_rfl
theorem rx_kindP (w:World):((ReflectliteType.abiMethod fun t=>(fun a:Nat=>Value.int IntKind.u8 (a:Int)) <$> Rtype.kind t) #[.pointer (some ⟨4,127,none⟩)]).run Tryz.prog w=.ok (.int .u8 22) w:=by kernel_rfl
theorem rx_kindE (w:World):((ReflectliteType.abiMethod fun t=>(fun a:Nat=>Value.int IntKind.u8 (a:Int)) <$> Rtype.kind t) #[.pointer (some ⟨4,125,none⟩)]).run Tryz.prog w=.ok (.int .u8 25) w:=by kernel_rfl
theorem rx_lm (z:Sem Value) (f:TypeId→Addr→Nat→Nat→Sem Value) (v:Value) :
  ReflectliteValue.method z f #[v]=(do match ← ReflectliteValue.parts v with|none=>z|some (t,a,fl)=>f t a fl (fl%32)):=rfl
theorem rx_partsP (a:Addr) (w:World):(ReflectliteValue.parts (.agg #[.pointer (some ⟨4,127,none⟩),.pointer (some a),.int .u64 150])).run Tryz.prog w=.ok (some (127,a,150)) w:=by kernel_rfl
theorem rx_isNilP (a p:Addr) (W:World) (ha:W.cell? a=some (.pointer (some p))) :
  (ReflectliteValue.method (ReflectliteValue.valueError "reflectlite.Value.IsNil" 0) ReflectliteValue.isNil #[.agg #[.pointer (some ⟨4, 127, none⟩), .pointer (some a), .int .u64 150]]).run Tryz.prog W = .ok (.bool false) W := by
 rw[rx_lm]
 simp only[Sem.run_bind,rx_partsP,Result.andThen]
 simp[ReflectliteValue.isNil,loadVar,isAgg,underlying,Tryz.underlying127,ha,Result.andThen]
theorem rx_methodElem (h : Value) (w : World) : (Go.method 372 188 (.agg #[h]) "Elem").run Tryz.prog w = .ok (236, .agg #[h]) w := by kernel_rfl
theorem rx_methodImplements (h : Value) (w : World) : (Go.method 372 188 (.agg #[h]) "Implements").run Tryz.prog w = .ok (237, .agg #[h]) w := by kernel_rfl
theorem rx_methodAssignableTo (h : Value) (w : World) : (Go.method 372 188 (.agg #[h]) "AssignableTo").run Tryz.prog w = .ok (234, .agg #[h]) w := by kernel_rfl
theorem rx_elemP (w:World):(ReflectliteType.method ReflectliteType.elem #[.agg #[.pointer (some ⟨4,127,none⟩)]]).run Tryz.prog w=.ok (.iface 188 (.agg #[.pointer (some ⟨4,125,none⟩)])) w:=by kernel_rfl
theorem rx_implementsE (w : World) : (ReflectliteType.relation "Implements" ReflectliteType.implements_ #[.agg #[.pointer (some ⟨4, 125, none⟩)], .iface 188 (.agg #[.pointer (some ⟨4, 72, none⟩)])]).run Tryz.prog w = .ok (.bool true) w := by kernel_rfl
theorem rx_typeOfE (v:Value) (w:World):(ReflectliteType.typeOf #[.iface 125 v]).run Tryz.prog w=.ok (.iface 188 (.agg #[.pointer (some ⟨4,125,none⟩)])) w:=by kernel_rfl
theorem rx_assignableE (w : World) : (ReflectliteType.relation "AssignableTo" ReflectliteType.assignableTo #[.agg #[.pointer (some ⟨4, 125, none⟩)], .iface 188 (.agg #[.pointer (some ⟨4, 125, none⟩)])]).run Tryz.prog w = .ok (.bool true) w := by kernel_rfl
theorem rx_valueOfE (x y z:Int) (w:World):(ReflectliteValue.unpack (.iface 125 (.agg #[.int .i64 x,.int .i64 y,.int .i64 z]))).run Tryz.prog w
  = .ok (.agg #[.pointer (some ⟨4,125,none⟩),.pointer (some ⟨w.heap.size,0,none⟩),.int .u64 153]) (w.alloc (.cells #[.int .i64 x,.int .i64 y,.int .i64 z] 125)):=by kernel_rfl
theorem rx_elemOfP (w:World):(Rtype.elem? 127).run Tryz.prog w=.ok (some 125) w:=by kernel_rfl
theorem rx_mkE (p:Addr) (w:World):(ReflectliteValue.mk 125 p ReflectliteValue.flagAddr).run Tryz.prog w=.ok (.agg #[.pointer (some ⟨4,125,none⟩),.pointer (some p),.int .u64 409]) w:=by kernel_rfl
theorem rx_elemVP (a p:Addr) (W:World) (ha:W.cell? a=some (.pointer (some p))) :
  (ReflectliteValue.method (ReflectliteValue.valueError "reflectlite.Value.Elem" 0) ReflectliteValue.elem #[.agg #[.pointer (some ⟨4, 127, none⟩), .pointer (some a), .int .u64 150]]).run Tryz.prog W
   = .ok (.agg #[.pointer (some ⟨4,125,none⟩),.pointer (some p),.int .u64 409]) W:=by
 rw[rx_lm]
 simp only[Sem.run_bind,rx_partsP,Result.andThen]
 simp[ReflectliteValue.elem,loadVar,isAgg,underlying,Tryz.underlying127,ha,Result.andThen,rx_elemOfP,rx_mkE]
theorem rx_set (v x:Value):ReflectliteValue.set #[v,x]=(do
  let (some (dst,a,fl),some (src,b,_)):=(←ReflectliteValue.parts v,←ReflectliteValue.parts x)
   | unsupported (.noEntry "extern/(internal/reflectlite.Value).Set.zeroValue")
  if fl / ReflectliteValue.flagAddr % 2 == 0 then unsupported (.noEntry "extern/(internal/reflectlite.Value).Set.unaddressable")
  let val ← loadVar src b
  if ← Rtype.directlyAssignable dst src then storeVar dst a val
  else if ← Rtype.implements dst src then
   if(←Rtype.kind src)==20 then
    match val with
    | .nilIface => unsupported (.noEntry "extern/reflectlite: a nil value of one interface type handed on as a value of another")
    | _=>storeVar dst a val
   else storeVar dst a (.iface src val)
  else panicString ("reflectlite.Set: value of type " ++ (← Rtype.spelt src) ++ " is not assignable to type " ++ (← Rtype.spelt dst))
  pure (.tuple #[])):=rfl
theorem rx_partsEa (a:Addr) (w:World):(ReflectliteValue.parts (.agg #[.pointer (some ⟨4,125,none⟩),.pointer (some a),.int .u64 409])).run Tryz.prog w=.ok (some (125,a,409)) w:=by kernel_rfl
theorem rx_partsE (a:Addr) (w:World):(ReflectliteValue.parts (.agg #[.pointer (some ⟨4,125,none⟩),.pointer (some a),.int .u64 153])).run Tryz.prog w=.ok (some (125,a,153)) w:=by kernel_rfl
theorem rx_directE (w:World):(Rtype.directlyAssignable 125 125).run Tryz.prog w=.ok true w:=by kernel_rfl
theorem rx_sizeE (w:World):(sizeOf 125).run Tryz.prog w=.ok 3 w:=by kernel_rfl
theorem rx_aggE (w:World):(isAgg 125).run Tryz.prog w=.ok true w:=by kernel_rfl
theorem rx_setE (t b:Nat) (x y z:Int) (o0 o1 o2:Value) (W:World) (hne:t≠b) (b0:W.cell? ⟨b,0,none⟩=some (.int .i64 x)) (b1:W.cell? ⟨b,1,none⟩=some (.int .i64 y)) (b2:W.cell? ⟨b,2,none⟩=some (.int .i64 z))
  (t0:W.cell? ⟨t,0,none⟩=some o0) (t1:W.cell? ⟨t,1,none⟩=some o1) (t2:W.cell? ⟨t,2,none⟩=some o2) (f0:W.frozen? ⟨t,0,none⟩=false) (f1:W.frozen? ⟨t,1,none⟩=false) (f2:W.frozen? ⟨t,2,none⟩=false) :
  (ReflectliteValue.set #[.agg #[.pointer (some ⟨4,125,none⟩),.pointer (some ⟨t,0,none⟩),.int .u64 409],.agg #[.pointer (some ⟨4,125,none⟩),.pointer (some ⟨b,0,none⟩),.int .u64 153]]).run Tryz.prog W
   = .ok (.tuple #[]) (((W.setCell ⟨t,0,none⟩ (.int .i64 x)).setCell ⟨t,1,none⟩ (.int .i64 y)).setCell ⟨t,2,none⟩ (.int .i64 z)):=by
 rw[rx_set]
 simp only[Sem.run_bind,rx_partsEa,rx_partsE,Result.andThen]
 simp[ReflectliteValue.flagAddr,loadVar,rx_aggE,rx_sizeE,loadCells,loadCellsFrom,b0,b1,b2,Result.andThen,rx_directE,storeVar,Value.cells,storeCells,Addr.add]
 have st:∀(u:World) (j:Nat) (v o:Value),u.cell? ⟨t,j,none⟩=some o→u.frozen? ⟨t,j,none⟩=false→v.oneCell'=true→Sem.run Tryz.prog (store ⟨t,j,none⟩ v) u=.ok () (u.setCell ⟨t,j,none⟩ v):=by
  intro u j v o h1 h2 h3
  rw[run_store Tryz.prog u _ _ _ h3]
  simp[h1,h2]
 rw[st W 0 _ o0 t0 f0 rfl]
 simp only[]
 rw[st (W.setCell ⟨t,0,none⟩ (.int .i64 x)) 1 _ o1 (by rw[World.cell?_setCell_other _ _ _ _ (by intro h;cases h)];exact t1) (by rw[World.frozen?_setCell];exact f1) rfl]
 simp only[]
 rw[st ((W.setCell ⟨t,0,none⟩ (.int .i64 x)).setCell ⟨t,1,none⟩ (.int .i64 y)) 2 _ o2 (by rw[World.cell?_setCell_other _ _ _ _ (by intro h;cases h),World.cell?_setCell_other _ _ _ _ (by intro h;cases h)];exact t2) (by rw[World.frozen?_setCell,World.frozen?_setCell];exact f2) rfl]
def errT (w:World):Prop:=w.cell? ⟨0,0,none⟩=some (.iface 188 (.agg #[.pointer (some ⟨4,72,none⟩)]))
theorem errT_keep {w w':World} (h:errT w) (hb:Below w.heap.size w w'):errT w':=by
 have hlt:0<w.heap.size:=by
  rcases Nat.lt_or_ge 0 w.heap.size with h1|h1
  ·exact h1
  ·unfold errT at h;simp[World.cell?,Array.getElem?_eq_none h1] at h
 exact(hb.cell (p:=⟨0,0,none⟩) hlt).trans h
set_option maxHeartbeats 4000000 in
theorem as_hit (x y z:Int) (t:Nat) (o0 o1 o2:Value) (w:World) (hg:errT w) (t0:w.cell? ⟨t,0,none⟩=some o0) (t1:w.cell? ⟨t,1,none⟩=some o1) (t2:w.cell? ⟨t,2,none⟩=some o2) (f0:w.frozen? ⟨t,0,none⟩=false) (f1:w.frozen? ⟨t,1,none⟩=false) (f2:w.frozen? ⟨t,2,none⟩=false) :
  Calls Tryz.prog 71 #[.iface 125 (.agg #[.int .i64 x,.int .i64 y,.int .i64 z]),.iface 127 (.pointer (some ⟨t,0,none⟩))] w fun ev w'=>ev=.returned (.bool true)∧w'=((((((w.alloc (.cells #[.pointer (some ⟨t,0,none⟩)] 127)).alloc (.cells #[.pointer (some ⟨4,127,none⟩),.pointer (some ⟨w.heap.size,0,none⟩),.int .u64 150] 167)).alloc (.cells #[.pointer (some ⟨4,127,none⟩),.pointer (some ⟨w.heap.size,0,none⟩),.int .u64 150] 167)).alloc (.cells #[.int .i64 x,.int .i64 y,.int .i64 z] 125)).setCell ⟨t,0,none⟩ (.int .i64 x)).setCell ⟨t,1,none⟩ (.int .i64 y)).setCell ⟨t,2,none⟩ (.int .i64 z):=by
 unfold errT at hg
 have hX0:=@run_callFunc_extern Tryz.prog 107 _ (fun args=>ReflectliteValue.unpack (args.getD 0 (.tuple #[]))) Tryz.func107 (by kernel_rfl) (by kernel_rfl) (by kernel_rfl) (by kernel_rfl)
 have hX1 := @run_callFunc_extern Tryz.prog 108 _ (ReflectliteValue.methodAny (ReflectliteValue.valueError "reflectlite.Value.Type" 0) (fun t _ _ _ => ReflectliteType.toType t)) Tryz.func108 (by kernel_rfl) (by kernel_rfl) (by kernel_rfl) (by kernel_rfl)
 have hX2 := @run_callFunc_extern Tryz.prog 109 _ (ReflectliteValue.method (ReflectliteValue.valueError "reflectlite.Value.IsNil" 0) ReflectliteValue.isNil) Tryz.func109 (by kernel_rfl) (by kernel_rfl) (by kernel_rfl) (by kernel_rfl)
 have hX3:=@run_callFunc_extern Tryz.prog 226 _ (ReflectliteType.abiMethod fun t=>do pure (.int .u8 (←Rtype.kind t))) Tryz.func226 (by kernel_rfl) (by kernel_rfl) (by kernel_rfl) (by kernel_rfl)
 have hX4:=@run_callFunc_extern Tryz.prog 236 _ (ReflectliteType.method ReflectliteType.elem) Tryz.func236 (by kernel_rfl) (by kernel_rfl) (by kernel_rfl) (by kernel_rfl)
 have hX5 := @run_callFunc_extern Tryz.prog 237 _ (ReflectliteType.relation "Implements" ReflectliteType.implements_) Tryz.func237 (by kernel_rfl) (by kernel_rfl) (by kernel_rfl) (by kernel_rfl)
 have hX6:=@run_callFunc_extern Tryz.prog 128 _ ReflectliteType.typeOf Tryz.func128 (by kernel_rfl) (by kernel_rfl) (by kernel_rfl) (by kernel_rfl)
 have hX7 := @run_callFunc_extern Tryz.prog 234 _ (ReflectliteType.relation "AssignableTo" ReflectliteType.assignableTo) Tryz.func234 (by kernel_rfl) (by kernel_rfl) (by kernel_rfl) (by kernel_rfl)
 have hX8 := @run_callFunc_extern Tryz.prog 129 _ (ReflectliteValue.method (ReflectliteValue.valueError "reflectlite.Value.Elem" 0) ReflectliteValue.elem) Tryz.func129 (by kernel_rfl) (by kernel_rfl) (by kernel_rfl) (by kernel_rfl)
 have hX9:=@run_callFunc_extern Tryz.prog 130 _ ReflectliteValue.set Tryz.func130 (by kernel_rfl) (by kernel_rfl) (by kernel_rfl) (by kernel_rfl)
 have tO:=rx_typeOfE
 have mA:=rx_methodAssignableTo
 have aE:=rx_assignableE
 have vE:=rx_valueOfE
 have f6:=rx_valueOfP
 have f7:=rx_typeP
 have mK:=rx_methodKind
 have mE:=rx_methodElem
 have mI:=rx_methodImplements
 have kP:=rx_kindP
 have kE:=rx_kindE
 have eP:=rx_elemP
 have iE:=rx_implementsE
 have n8:=rx_isNilP ⟨w.heap.size,0,none⟩ ⟨t,0,none⟩ ((w.alloc (.cells #[.pointer (some ⟨t,0,none⟩)] 127)).alloc (.cells #[.pointer (some ⟨4,127,none⟩),.pointer (some ⟨w.heap.size,0,none⟩),.int .u64 150] 167)) (by simp)
 have hlt:0<w.heap.size:=by
  rcases Nat.lt_or_ge 0 w.heap.size with h1|h1
  ·exact h1
  ·simp[World.cell?,Array.getElem?_eq_none h1] at hg
 have hg2:((w.alloc (.cells #[.pointer (some ⟨t,0,none⟩)] 127)).alloc (.cells #[.pointer (some ⟨4,127,none⟩),.pointer (some ⟨w.heap.size,0,none⟩),.int .u64 150] 167)).cell? ⟨0,0,none⟩=some (.iface 188 (.agg #[.pointer (some ⟨4,72,none⟩)])):=by
  rw[World.cell?_alloc_lt _ _ ⟨0,0,none⟩ (by simp<;>omega),World.cell?_alloc_lt _ _ ⟨0,0,none⟩ hlt];exact hg
 have htl:t<w.heap.size:=by
  rcases Nat.lt_or_ge t w.heap.size with h|h
  ·exact h
  ·simp[World.cell?,Array.getElem?_eq_none h] at t0
 obtain⟨w3,hw3⟩:∃w3,w3=(((w.alloc (.cells #[.pointer (some ⟨t,0,none⟩)] 127)).alloc (.cells #[.pointer (some ⟨4,127,none⟩),.pointer (some ⟨w.heap.size,0,none⟩),.int .u64 150] 167)).alloc (.cells #[.pointer (some ⟨4,127,none⟩),.pointer (some ⟨w.heap.size,0,none⟩),.int .u64 150] 167)):=⟨_,rfl⟩
 have hs3:w3.heap.size=w.heap.size+1+1+1:=by rw[hw3];simp
 have B3:Below w.heap.size w w3:=by rw[hw3];exact(((Below.refl _ _).alloc (Nat.le_refl _) _).alloc (by simp) _).alloc (by simp;omega) _
 have el:=rx_elemVP ⟨w.heap.size,0,none⟩ ⟨t,0,none⟩ w3 (by rw[hw3,World.cell?_alloc_lt _ _ ⟨w.heap.size,0,none⟩ (by simp;omega)];simp)
 have st:=rx_setE t w3.heap.size x y z o0 o1 o2 (w3.alloc (.cells #[.int .i64 x,.int .i64 y,.int .i64 z] 125)) (by omega)
  (by simp) (by simp) (by simp)
  (by rw[World.cell?_alloc_lt _ _ ⟨t,0,none⟩ (by show t<_;omega),B3.cell (p:=⟨t,0,none⟩) htl];exact t0) (by rw[World.cell?_alloc_lt _ _ ⟨t,1,none⟩ (by show t<_;omega),B3.cell (p:=⟨t,1,none⟩) htl];exact t1) (by rw[World.cell?_alloc_lt _ _ ⟨t,2,none⟩ (by show t<_;omega),B3.cell (p:=⟨t,2,none⟩) htl];exact t2)
  (by rw[World.frozen?_alloc_old _ _ ⟨t,0,none⟩ (by show t≠_;omega),B3.frozen (p:=⟨t,0,none⟩) htl];exact f0) (by rw[World.frozen?_alloc_old _ _ ⟨t,1,none⟩ (by show t≠_;omega),B3.frozen (p:=⟨t,1,none⟩) htl];exact f1) (by rw[World.frozen?_alloc_old _ _ ⟨t,2,none⟩ (by show t≠_;omega),B3.frozen (p:=⟨t,2,none⟩) htl];exact f2)
 rw[hs3] at st
 subst hw3
 clear hs3 B3 t0 t1 t2 f0 f1 f2
 go_enter Tryz.func71,Tryz.ntmps71
 go_wp2
 refine wp_loop_rounds 1 ?_
 rw[rounds_succ]
 go_wp2
 go_ret
 exact⟨rfl,rfl⟩
end Go.Proofs.YtpaneomkphjpcaaGreatDoor
