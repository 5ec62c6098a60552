"""Majordomo: a cluster orchestrator."""
