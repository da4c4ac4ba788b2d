
/-
 Texts joined: E5Inp E5w.
-/
import Derived.Test.YtfgelheiknmjgaaGreatDoorZs12
import Derived.Test.YtfgelheiknmjgaaGreatDoorZs13
import Derived.Test.YtfgelheiknmjgaaGreatDoorZs14
namespace Go.Proofs.YtfgelheiknmjgaaGreatDoor
open Go.RowKit
end Go.Proofs.YtfgelheiknmjgaaGreatDoor
namespace Go.Proofs.YtfgelheiknmjgaaGreatDoor
open Go.RowKit
abbrev blkrFldOps:Array Oper :=
 #[{ dst:=some 9,op:=.move (.tmp 0),type := 102,pos := "parser.go:24",after:=#[],guard:=none },
  { dst:=some 10,op:=.nilCheck (.tmp 9),type:=0,pos := "parser.go:24",after:=#[{ on:=0,ground:=.data }],guard:=none },
  { dst:=some 11,op:=.fieldAddr 67 (.tmp 10) 0,type:=0,pos := "parser.go:24",after:=#[{ on:=1,ground:=.data }],guard:=none },
  { dst:=some 12,op:=.move (.tmp 1),type := 9,pos := "parser.go:24",after:=#[],guard:=none },
  { dst:=some 13,op:=.move (.tmp 2),type := 3,pos := "parser.go:24",after:=#[],guard:=none },
  { dst:=some 14,op:=.move (.tmp 0),type := 102,pos := "parser.go:24",after:=#[],guard:=none },
  { dst:=some 15,op:=.nilCheck (.tmp 14),type:=0,pos := "parser.go:24",after:=#[{ on:=5,ground:=.data }],guard:=none },
  { dst:=some 16,op:=.fieldAddr 67 (.tmp 15) 0,type:=0,pos := "parser.go:24",after:=#[{ on:=6,ground:=.data }],guard:=none },
  { dst:=some 17,op:=.makeFunc (Fn.func 160) #[.tmp 16] #[],type := 27,pos := "parser.go:24",after:=#[{ on:=7,ground:=.data }],guard:=none },
  { dst:=some 18,op:=.move (.tmp 3),type := 150,pos := "parser.go:24",after:=#[],guard:=none },
  { dst:=some 19,op:=.call { callee:=.value (.func 165),args:=#[.tmp 11,.tmp 12,.tmp 13,.tmp 17,.tmp 18],argTypes:=#[146, 9, 3, 27, 150] },type := 35,pos := "parser.go:24",after:=#[{ on:=2,ground:=.data }, { on:=3,ground:=.data }, { on:=4,ground:=.data }, { on:=8,ground:=.data }, { on:=9,ground:=.data }],guard:=none },
  { dst:=some 8,op:=.assign (.tmp 19),type := 35,pos := "parser.go:24",after:=#[{ on:=10,ground:=.data }, { on:=10,ground:=.chain }, { on:=0,ground:=.phase }, { on:=1,ground:=.phase }, { on:=2,ground:=.phase }, { on:=3,ground:=.phase }, { on:=4,ground:=.phase }, { on:=5,ground:=.phase }, { on:=6,ground:=.phase }, { on:=7,ground:=.phase }, { on:=8,ground:=.phase }, { on:=9,ground:=.phase }, { on:=10,ground:=.phase }],guard:=none }]
abbrev blkrMemOps:Array Oper :=
 #[{ dst:=some 9,op:=.move (.tmp 0),type := 102,pos := "parser.go:24",after:=#[],guard:=none },
  { dst:=some 10,op:=.nilCheck (.tmp 9),type:=0,pos := "parser.go:24",after:=#[{ on:=0,ground:=.data }],guard:=none },
  { dst:=some 11,op:=.fieldAddr 67 (.tmp 10) 0,type:=0,pos := "parser.go:24",after:=#[{ on:=1,ground:=.data }],guard:=none },
  { dst:=some 12,op:=.move (.tmp 1),type := 9,pos := "parser.go:24",after:=#[],guard:=none },
  { dst:=some 13,op:=.move (.tmp 2),type := 3,pos := "parser.go:24",after:=#[],guard:=none },
  { dst:=some 14,op:=.move (.tmp 0),type := 102,pos := "parser.go:24",after:=#[],guard:=none },
  { dst:=some 15,op:=.nilCheck (.tmp 14),type:=0,pos := "parser.go:24",after:=#[{ on:=5,ground:=.data }],guard:=none },
  { dst:=some 16,op:=.fieldAddr 67 (.tmp 15) 0,type:=0,pos := "parser.go:24",after:=#[{ on:=6,ground:=.data }],guard:=none },
  { dst:=some 17,op:=.makeFunc (Fn.func 160) #[.tmp 16] #[],type := 27,pos := "parser.go:24",after:=#[{ on:=7,ground:=.data }],guard:=none },
  { dst:=some 18,op:=.move (.tmp 3),type := 153,pos := "parser.go:24",after:=#[],guard:=none },
  { dst:=some 19,op:=.call { callee:=.value (.func 169),args:=#[.tmp 11,.tmp 12,.tmp 13,.tmp 17,.tmp 18],argTypes:=#[146, 9, 3, 27, 153] },type := 36,pos := "parser.go:24",after:=#[{ on:=2,ground:=.data }, { on:=3,ground:=.data }, { on:=4,ground:=.data }, { on:=8,ground:=.data }, { on:=9,ground:=.data }],guard:=none },
  { dst:=some 8,op:=.assign (.tmp 19),type := 36,pos := "parser.go:24",after:=#[{ on:=10,ground:=.data }, { on:=10,ground:=.chain }, { on:=0,ground:=.phase }, { on:=1,ground:=.phase }, { on:=2,ground:=.phase }, { on:=3,ground:=.phase }, { on:=4,ground:=.phase }, { on:=5,ground:=.phase }, { on:=6,ground:=.phase }, { on:=7,ground:=.phase }, { on:=8,ground:=.phase }, { on:=9,ground:=.phase }, { on:=10,ground:=.phase }],guard:=none }]
abbrev blkrInpOps:Array Oper :=
 #[{ dst:=some 9,op:=.move (.tmp 0),type := 102,pos := "parser.go:24",after:=#[],guard:=none },
  { dst:=some 10,op:=.nilCheck (.tmp 9),type:=0,pos := "parser.go:24",after:=#[{ on:=0,ground:=.data }],guard:=none },
  { dst:=some 11,op:=.fieldAddr 67 (.tmp 10) 0,type:=0,pos := "parser.go:24",after:=#[{ on:=1,ground:=.data }],guard:=none },
  { dst:=some 12,op:=.move (.tmp 1),type := 9,pos := "parser.go:24",after:=#[],guard:=none },
  { dst:=some 13,op:=.move (.tmp 2),type := 3,pos := "parser.go:24",after:=#[],guard:=none },
  { dst:=some 14,op:=.move (.tmp 0),type := 102,pos := "parser.go:24",after:=#[],guard:=none },
  { dst:=some 15,op:=.nilCheck (.tmp 14),type:=0,pos := "parser.go:24",after:=#[{ on:=5,ground:=.data }],guard:=none },
  { dst:=some 16,op:=.fieldAddr 67 (.tmp 15) 0,type:=0,pos := "parser.go:24",after:=#[{ on:=6,ground:=.data }],guard:=none },
  { dst:=some 17,op:=.makeFunc (Fn.func 160) #[.tmp 16] #[],type := 27,pos := "parser.go:24",after:=#[{ on:=7,ground:=.data }],guard:=none },
  { dst:=some 18,op:=.move (.tmp 3),type := 155,pos := "parser.go:24",after:=#[],guard:=none },
  { dst:=some 19,op:=.call { callee:=.value (.func 170),args:=#[.tmp 11,.tmp 12,.tmp 13,.tmp 17,.tmp 18],argTypes:=#[146, 9, 3, 27, 155] },type := 37,pos := "parser.go:24",after:=#[{ on:=2,ground:=.data }, { on:=3,ground:=.data }, { on:=4,ground:=.data }, { on:=8,ground:=.data }, { on:=9,ground:=.data }],guard:=none },
  { dst:=some 8,op:=.assign (.tmp 19),type := 37,pos := "parser.go:24",after:=#[{ on:=10,ground:=.data }, { on:=10,ground:=.chain }, { on:=0,ground:=.phase }, { on:=1,ground:=.phase }, { on:=2,ground:=.phase }, { on:=3,ground:=.phase }, { on:=4,ground:=.phase }, { on:=5,ground:=.phase }, { on:=6,ground:=.phase }, { on:=7,ground:=.phase }, { on:=8,ground:=.phase }, { on:=9,ground:=.phase }, { on:=10,ground:=.phase }],guard:=none }]
end Go.Proofs.YtfgelheiknmjgaaGreatDoor

